package tests

import (
	"math/big"
	"math/rand"
	"slices"
	"testing"

	"loop.example/g00056/impl"
)

func TestMeasuringLimits(t *testing.T) {
	if impl.MaxRing != 200 || impl.JuGood != 1 || impl.JuBad != 2 || impl.JuOpen != 3 {
		t.Error("limits", impl.MaxRing, impl.JuGood, impl.JuBad, impl.JuOpen)
	}
}

// signedArea2 is twice the signed area of three points within MaxRing.
func signedArea2(a, b, c impl.Point) int {
	return a.X*b.Y - b.X*a.Y + b.X*c.Y - c.X*b.Y + c.X*a.Y - a.X*c.Y
}

func squareApart(a, b impl.Point) int { return (a.X-b.X)*(a.X-b.X) + (a.Y-b.Y)*(a.Y-b.Y) }

// liesBetween is for a point on the line through a and b.
func liesBetween(a, b, x impl.Point) bool {
	return squareApart(a, x) <= squareApart(a, b) && squareApart(b, x) <= squareApart(a, b)
}

// isSide: no point is to the right of it, some are to its left, and of those
// on its line none is beyond its ends.
func isSide(p []impl.Point, a, b impl.Point) bool {
	wide := false
	for _, x := range p {
		area := signedArea2(a, b, x)
		if area < 0 || area == 0 && !liesBetween(a, b, x) {
			return false
		}
		wide = wide || area > 0
	}
	return wide
}

func squareWidth(z impl.Zone) *big.Rat { return ratOf(z.N, z.D) }

// exactZone tries each pair of places as a side, then goes from side to side,
// from the least corner on.
func exactZone(p []impl.Point) impl.Zone {
	low, high := slices.MinFunc(p, byXThenY), slices.MaxFunc(p, byXThenY)
	next := map[impl.Point]impl.Point{}
	for _, a := range p {
		for _, b := range p {
			if a != b && isSide(p, a, b) {
				next[a] = b
			}
		}
	}
	if len(next) == 0 {
		return impl.Zone{A: slices.Index(p, low), B: slices.Index(p, high), C: slices.Index(p, low), D: max(1, squareApart(low, high))}
	}
	var best impl.Zone
	for i, a := 0, low; i < len(next); i, a = i+1, next[a] {
		zone := exactZoneAlong(p, a, next[a])
		if i == 0 || squareWidth(zone).Cmp(squareWidth(best)) < 0 {
			best = zone
		}
	}
	return best
}

func byXThenY(a, b impl.Point) int {
	if a.X != b.X {
		return a.X - b.X
	}
	return a.Y - b.Y
}

func exactZoneAlong(p []impl.Point, a, b impl.Point) impl.Zone {
	var areas []int
	for _, x := range p {
		areas = append(areas, signedArea2(a, b, x))
	}
	most := slices.Max(areas)
	return impl.Zone{A: slices.Index(p, a), B: slices.Index(p, b), C: slices.Index(areas, most), N: most * most, D: squareApart(a, b)}
}

// checkStrip holds all points against the strip that is told, and the strip
// against those in other directions.
func checkStrip(t *testing.T, p []impl.Point, z impl.Zone, directions []impl.Point) {
	t.Helper()
	a, b, c := p[z.A], p[z.B], p[z.C]
	width := signedArea2(a, b, c)
	if z.N != width*width || z.D != max(1, squareApart(a, b)) {
		t.Fatal("ZoneOf", p, z, "does not go through its points")
	}
	for _, x := range p {
		if area := signedArea2(a, b, x); area < 0 || area > width {
			t.Fatal("ZoneOf", p, z, "does not have", x)
		}
	}
	for _, d := range directions {
		low, high := greatest, least
		for _, x := range p {
			height := d.X*x.Y - d.Y*x.X
			low, high = min(low, height), max(high, height)
		}
		if ratOf((high-low)*(high-low), d.X*d.X+d.Y*d.Y).Cmp(squareWidth(z)) < 0 {
			t.Fatal("ZoneOf", p, z, "is wider than the strip along", d)
		}
	}
}

func checkZone(t *testing.T, p []impl.Point, directions []impl.Point) impl.Zone {
	t.Helper()
	z, code := impl.ZoneOf(p)
	if want := exactZone(p); z != want || code != impl.OK {
		t.Fatal("ZoneOf", p, z, code, "not", want)
	}
	checkStrip(t, p, z, directions)
	return z
}

// directionsTo: those of which no number is greater, but for 0, 0.
func directionsTo(reach int) []impl.Point {
	var list []impl.Point
	for x := range reach + 1 {
		for y := -reach; y <= reach; y++ {
			if x != 0 || y > 0 {
				list = append(list, at(x, y))
			}
		}
	}
	return list
}

func TestZonesTold(t *testing.T) {
	const m = impl.MaxRing
	for _, c := range []struct {
		p    []impl.Point
		want impl.Zone
	}{
		// One point, and several at one place.
		{points(0, 0), impl.Zone{D: 1}}, {points(-7, 9), impl.Zone{D: 1}}, {points(m, -m), impl.Zone{D: 1}}, {points(3, 3, 3, 3, 3, 3), impl.Zone{D: 1}},
		// Two points: the lesser one is A, by X and then by Y.
		{points(0, 0, 3, 4), impl.Zone{A: 0, B: 1, C: 0, D: 25}}, {points(3, 4, 0, 0), impl.Zone{A: 1, B: 0, C: 1, D: 25}}, {points(2, 5, 2, 1), impl.Zone{A: 1, B: 0, C: 1, D: 16}},
		{points(0, 9, 1, 0), impl.Zone{A: 0, B: 1, C: 0, D: 82}}, {points(-m, -m, m, m), impl.Zone{A: 0, B: 1, C: 0, D: 8 * m * m}}, {points(m, -m, -m, m), impl.Zone{A: 1, B: 0, C: 1, D: 8 * m * m}},
		// In a row, the ends more than once.
		{points(4, 2, 2, 1, 6, 3, 0, 0), impl.Zone{A: 3, B: 2, C: 3, D: 45}}, {points(1, 1, 5, 5, 0, 0, 5, 5, 0, 0, 3, 3), impl.Zone{A: 2, B: 1, C: 2, D: 50}},
		{points(0, 3, 0, 1, 0, 2, 0, 1), impl.Zone{A: 1, B: 0, C: 1, D: 4}}, {points(9, 1, 9, 1, 2, 1), impl.Zone{A: 2, B: 0, C: 2, D: 49}},
		// A square: all sides are as narrow; N and D are not reduced.
		{points(0, 0, 2, 0, 2, 2, 0, 2), impl.Zone{A: 0, B: 1, C: 2, N: 16, D: 4}}, {points(2, 2, 0, 2, 0, 0, 2, 0), impl.Zone{A: 2, B: 3, C: 0, N: 16, D: 4}},
		{points(0, 2, 2, 2, 2, 0, 0, 0), impl.Zone{A: 3, B: 2, C: 0, N: 16, D: 4}}, {points(0, 0, 1, 0, 1, 1, 0, 1), impl.Zone{A: 0, B: 1, C: 2, N: 1, D: 1}},
		// On its corner: from the least one down to the right.
		{points(1, 0, 2, 1, 1, 2, 0, 1), impl.Zone{A: 3, B: 0, C: 1, N: 4, D: 2}}, {points(1, 2, 1, 0, 2, 1, 0, 1), impl.Zone{A: 3, B: 1, C: 0, N: 4, D: 2}},
		// Longer than wide, wider than long; points on a side are no corners.
		{points(0, 0, 5, 0, 5, 2, 0, 2), impl.Zone{A: 0, B: 1, C: 2, N: 100, D: 25}}, {points(0, 0, 2, 0, 2, 5, 0, 5), impl.Zone{A: 1, B: 2, C: 0, N: 100, D: 25}},
		{points(1, 0, 0, 0, 3, 0, 5, 0, 4, 2, 5, 2, 0, 2), impl.Zone{A: 1, B: 3, C: 4, N: 100, D: 25}},
		// The last side is the narrowest: from the last corner to the first.
		{points(0, 0, 1, 0, 1, 9), impl.Zone{A: 2, B: 0, C: 1, N: 81, D: 82}}, {points(0, 0, 3, 1, 0, 8), impl.Zone{A: 2, B: 0, C: 1, N: 24 * 24, D: 64}},
		{points(0, 8, 0, 0, 2, 1, 2, 7), impl.Zone{A: 2, B: 3, C: 0, N: 144, D: 36}},
		// Corners more than once: the first has the number, of C too.
		{points(2, 0, 0, 0, 2, 0, 0, 0, 1, 5, 1, 5), impl.Zone{A: 0, B: 4, C: 1, N: 100, D: 26}}, {points(5, 2, 5, 2, 0, 0, 0, 0, 5, 0, 5, 0, 0, 2, 0, 2), impl.Zone{A: 2, B: 4, C: 0, N: 100, D: 25}},
		// As far as can be.
		{points(-m, -m, m, -m, m, m, -m, m), impl.Zone{A: 0, B: 1, C: 2, N: 16 * m * m * m * m, D: 4 * m * m}},
		{points(-m, -m, m, m, m-1, m), impl.Zone{A: 0, B: 1, C: 2, N: 4 * m * m, D: 8 * m * m}}, {points(-m, m, m, -m, -m, -m), impl.Zone{A: 1, B: 0, C: 2, N: 16 * m * m * m * m, D: 8 * m * m}},
	} {
		if got := checkZone(t, c.p, directionsTo(6)); got != c.want {
			t.Error("ZoneOf", c.p, got, "not", c.want)
		}
	}
}

func TestZonesOfAllSmallLists(t *testing.T) {
	directions := directionsTo(3)
	seen := map[int]int{}
	for length := 1; length <= 5; length++ {
		eachRow(square(3), length, func(p []impl.Point) { seen[len(exactCorners(checkZone(t, p, directions)))]++ })
	}
	for length := 1; length <= 3; length++ {
		eachRow(square(5), length, func(p []impl.Point) { checkZone(t, p, directions) })
	}
	if seen[1] == 0 || seen[2] == 0 || seen[3] == 0 {
		t.Error("the lists are poor", seen)
	}
}

// exactCorners: the numbers that a zone tells, each once.
func exactCorners(z impl.Zone) []int {
	numbers := []int{z.A, z.B, z.C}
	slices.Sort(numbers)
	return slices.Compact(numbers)
}

func drawnPlaces(draw *rand.Rand, count, reach int) []impl.Point {
	p := make([]impl.Point, count)
	for i := range p {
		p[i] = at(drawnNear(draw, -reach, reach), drawnNear(draw, -reach, reach))
		if i > 0 && draw.Intn(8) == 0 {
			p[i] = p[draw.Intn(i)]
		}
	}
	return p
}

// drawnRow: on one line, though not in their order.
func drawnRow(draw *rand.Rand, count int) []impl.Point {
	start, way := at(draw.Intn(41)-20, draw.Intn(41)-20), at(draw.Intn(7)-3, draw.Intn(7)-3)
	p := make([]impl.Point, count)
	for i := range p {
		n := draw.Intn(61) - 30
		p[i] = at(start.X+n*way.X, start.Y+n*way.Y)
	}
	return p
}

func drawnLists(draw *rand.Rand, do func([]impl.Point)) {
	for _, size := range []struct{ most, reach, times int }{{6, 2, 600}, {9, 4, 600}, {12, 20, 300}, {40, 8, 60}, {20, impl.MaxRing, 200}, {impl.MaxCorners, 12, 6}, {impl.MaxCorners, impl.MaxRing, 6}} {
		for range size.times {
			do(drawnPlaces(draw, 1+draw.Intn(size.most), size.reach))
		}
	}
	for range 200 {
		do(drawnRow(draw, 1+draw.Intn(9)))
	}
}

func TestZonesOfDrawnPoints(t *testing.T) {
	draw := rand.New(rand.NewSource(10))
	directions := directionsTo(9)
	drawnLists(draw, func(p []impl.Point) {
		z := checkZone(t, p, directions)
		checkZoneStirred(t, draw, p, z)
		checkZoneGrown(t, draw, p, z)
	})
}

// checkZoneStirred: the strip does not hang on the order of the points, nor on
// where they lie.
func checkZoneStirred(t *testing.T, draw *rand.Rand, p []impl.Point, z impl.Zone) {
	t.Helper()
	order := draw.Perm(len(p))
	moved := make([]impl.Point, len(p))
	mirrored := make([]impl.Point, len(p))
	for i, number := range order {
		moved[i] = p[number]
		mirrored[i] = at(-p[number].Y, p[number].X)
	}
	got, code := impl.ZoneOf(moved)
	if code != impl.OK || got.N != z.N || got.D != z.D || moved[got.A] != p[z.A] || moved[got.B] != p[z.B] {
		t.Fatal("ZoneOf stirred", moved, got, code, "not", z, "of", p)
	}
	got, code = impl.ZoneOf(mirrored)
	if code != impl.OK || squareWidth(got).Cmp(squareWidth(z)) != 0 {
		t.Fatal("ZoneOf turned", mirrored, got, code, "not", z, "of", p)
	}
}

// checkZoneGrown: points that are there already, behind the others, change
// nothing; a point anywhere never makes the strip narrower.
func checkZoneGrown(t *testing.T, draw *rand.Rand, p []impl.Point, z impl.Zone) {
	t.Helper()
	if len(p) == impl.MaxCorners {
		return
	}
	again := append(slices.Clone(p), p[draw.Intn(len(p))])
	if got, code := impl.ZoneOf(again); got != z || code != impl.OK {
		t.Fatal("ZoneOf with a point again", again, got, code, "not", z)
	}
	more := append(slices.Clone(p), at(draw.Intn(401)-200, draw.Intn(401)-200))
	if got, code := impl.ZoneOf(more); code != impl.OK || squareWidth(got).Cmp(squareWidth(z)) < 0 {
		t.Fatal("ZoneOf with one more", more, got, code, "below", z)
	}
}
