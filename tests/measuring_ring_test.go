package tests

import (
	"cmp"
	"math"
	"math/big"
	"math/rand"
	"slices"
	"testing"

	"loop.example/g00056/impl"
)

// placesOf: the numbers of the points, each place once.
func placesOf(p []impl.Point) []int {
	var numbers []int
	for i, x := range p {
		if !slices.Contains(p[:i], x) {
			numbers = append(numbers, i)
		}
	}
	return numbers
}

// angleAt is above 0 if the angle at x is acute, below 0 if it is obtuse.
func angleAt(x, a, b impl.Point) int { return (a.X-x.X)*(b.X-x.X) + (a.Y-x.Y)*(b.Y-x.Y) }

// pairHasAll: from each point of a circle or outside it a diameter is seen
// under an angle that is not obtuse; at the rim it is right.
func pairHasAll(p []impl.Point, a, b impl.Point) bool {
	return !slices.ContainsFunc(p, func(x impl.Point) bool { return angleAt(x, a, b) > 0 })
}

// inCircle: above 0 if x is inside the circle through a, b, c, which go round
// to the left, by their determinant.
func inCircle(a, b, c, x impl.Point) int {
	row := func(q impl.Point) (int, int, int) { return q.X - x.X, q.Y - x.Y, squareApart(q, x) }
	ax, ay, aa := row(a)
	bx, by, bb := row(b)
	cx, cy, cc := row(c)
	return ax*(by*cc-bb*cy) - ay*(bx*cc-bb*cx) + aa*(bx*cy-by*cx)
}

func tripleHasAll(p []impl.Point, a, b, c impl.Point) bool {
	turned := signedArea2(a, b, c)
	if turned == 0 || angleAt(a, b, c) < 0 || angleAt(b, a, c) < 0 || angleAt(c, a, b) < 0 {
		return false
	}
	if turned < 0 {
		b, c = c, b
	}
	return !slices.ContainsFunc(p, func(x impl.Point) bool { return inCircle(a, b, c, x) < 0 })
}

// exactTold: the numbers that tell the circle, each pair and each triple tried
// in their order.
func exactTold(p []impl.Point) []int {
	places := placesOf(p)
	if len(places) == 1 {
		return places
	}
	for i, a := range places {
		for _, b := range places[i+1:] {
			if pairHasAll(p, p[a], p[b]) {
				return []int{a, b}
			}
		}
	}
	for i, a := range places {
		for j := i + 1; j < len(places); j++ {
			for _, c := range places[j+1:] {
				if tripleHasAll(p, p[a], p[places[j]], p[c]) {
					return []int{a, places[j], c}
				}
			}
		}
	}
	return nil
}

func squareFrom(centre ratPoint, x impl.Point) *big.Rat {
	way := exactPoint(x).minus(centre)
	return way.along(way)
}

// toldIn: the numbers of a ring, as many as it counts.
func toldIn(r impl.Ring) []int { return []int{r.A, r.B, r.C}[:min(3, max(0, r.Count))] }

func centreIn(r impl.Ring) ratPoint { return ratPoint{ratOf(r.X, r.D), ratOf(r.Y, r.D)} }

func squareRadius(r impl.Ring) *big.Rat { return ratOf(r.N, r.D*r.D) }

// checkCircle: the numbers are reduced, the told points lie on the rim (of two
// as far from one another as they can), and all points lie within.
func checkCircle(t *testing.T, p []impl.Point, r impl.Ring) {
	t.Helper()
	divisor := new(big.Int).GCD(nil, nil, bigSum(max(r.X, -r.X)), bigSum(max(r.Y, -r.Y)))
	if r.D < 1 || divisor.GCD(nil, nil, divisor, bigSum(r.D)).Int64() != 1 {
		t.Fatal("RingOf", p, r, "has a centre that is not reduced")
	}
	centre, square := centreIn(r), squareRadius(r)
	for _, number := range toldIn(r) {
		if squareFrom(centre, p[number]).Cmp(square) != 0 {
			t.Fatal("RingOf", p, r, "does not go through", number)
		}
	}
	if r.Count == 2 && ratOf(squareApart(p[r.A], p[r.B]), 4).Cmp(square) != 0 {
		t.Fatal("RingOf", p, r, "is not about the middle")
	}
	for _, x := range p {
		if squareFrom(centre, x).Cmp(square) > 0 {
			t.Fatal("RingOf", p, r, "does not have", x)
		}
	}
}

func checkRing(t *testing.T, p []impl.Point) impl.Ring {
	t.Helper()
	r, code := impl.RingOf(p)
	if code != impl.OK || !between1and3(r.Count) || !slices.Equal(toldIn(r), exactTold(p)) {
		t.Fatal("RingOf", p, r, code, "not by", exactTold(p))
	}
	if unused := [3]int{r.A, r.B, r.C}; slices.ContainsFunc(unused[r.Count:], func(n int) bool { return n != 0 }) {
		t.Fatal("RingOf", p, r, "tells numbers that it does not use")
	}
	checkCircle(t, p, r)
	return r
}

func between1and3(n int) bool { return 1 <= n && n <= 3 }

func TestRingsTold(t *testing.T) {
	const m = impl.MaxRing
	for _, c := range []struct {
		p    []impl.Point
		want impl.Ring
	}{
		// One point, and several at one place.
		{points(0, 0), impl.Ring{Count: 1, D: 1}}, {points(-3, 8), impl.Ring{Count: 1, X: -3, Y: 8, D: 1}}, {points(4, 6, 4, 6, 4, 6), impl.Ring{Count: 1, X: 4, Y: 6, D: 1}},
		{points(m, -m), impl.Ring{Count: 1, X: m, Y: -m, D: 1}},
		// Two places: the first point at each.
		{points(0, 0, 4, 2), impl.Ring{Count: 2, A: 0, B: 1, X: 2, Y: 1, D: 1, N: 5}}, {points(4, 2, 0, 0), impl.Ring{Count: 2, A: 0, B: 1, X: 2, Y: 1, D: 1, N: 5}},
		{points(1, 1, 1, 1, 2, 1, 1, 1, 2, 1), impl.Ring{Count: 2, A: 0, B: 2, X: 3, Y: 2, D: 2, N: 1}}, {points(0, 0, 0, 1), impl.Ring{Count: 2, A: 0, B: 1, X: 0, Y: 1, D: 2, N: 1}},
		{points(-3, 0, 2, 0), impl.Ring{Count: 2, A: 0, B: 1, X: -1, Y: 0, D: 2, N: 25}}, {points(-5, -5, 5, 5), impl.Ring{Count: 2, A: 0, B: 1, D: 1, N: 50}},
		// In a row: the ends, wherever they stand.
		{points(2, 1, 6, 3, 0, 0, 4, 2), impl.Ring{Count: 2, A: 1, B: 2, X: 6, Y: 3, D: 2, N: 45}}, {points(3, 3, 1, 1, 5, 5, 1, 1, 5, 5), impl.Ring{Count: 2, A: 1, B: 2, X: 3, Y: 3, D: 1, N: 8}},
		// A right angle, an obtuse one: the pair across makes it.
		{points(0, 0, 4, 0, 0, 2), impl.Ring{Count: 2, A: 1, B: 2, X: 2, Y: 1, D: 1, N: 5}}, {points(0, 0, 5, 1, 10, 0), impl.Ring{Count: 2, A: 0, B: 2, X: 5, Y: 0, D: 1, N: 25}},
		{points(0, 3, 0, 0, 1, 0), impl.Ring{Count: 2, A: 0, B: 2, X: 1, Y: 3, D: 2, N: 10}}, {points(0, 0, 1, 0, 9, 1), impl.Ring{Count: 2, A: 0, B: 2, X: 9, Y: 1, D: 2, N: 82}},
		// A square has two such pairs, and more points lie on its circle.
		{points(0, 0, 2, 0, 2, 2, 0, 2), impl.Ring{Count: 2, A: 0, B: 2, X: 1, Y: 1, D: 1, N: 2}}, {points(0, 0, 0, 2, 2, 0, 2, 2), impl.Ring{Count: 2, A: 0, B: 3, X: 1, Y: 1, D: 1, N: 2}},
		{points(0, 0, 2, 0, 0, 2, 2, 2), impl.Ring{Count: 2, A: 0, B: 3, X: 1, Y: 1, D: 1, N: 2}}, {points(1, 1, 0, 2, 0, 0, 2, 2, 2, 0), impl.Ring{Count: 2, A: 1, B: 4, X: 1, Y: 1, D: 1, N: 2}},
		{points(3, 4, 4, 3, 5, 0, -4, -3, -3, -4, -5, 0), impl.Ring{Count: 2, A: 0, B: 4, D: 1, N: 25}}, {points(4, 3, 5, 0, 3, 4, -3, -4, 0, 5, -5, 0), impl.Ring{Count: 2, A: 1, B: 5, D: 1, N: 25}},
		// Triples: with a D of 1, with one that is reduced and with one that is not.
		{points(0, 5, 3, -4, -3, -4), impl.Ring{Count: 3, A: 0, B: 1, C: 2, D: 1, N: 25}}, {points(0, 0, 4, 0, 2, 4), impl.Ring{Count: 3, A: 0, B: 1, C: 2, X: 4, Y: 3, D: 2, N: 25}},
		{points(0, 0, 5, 1, 1, 5), impl.Ring{Count: 3, A: 0, B: 1, C: 2, X: 13, Y: 13, D: 6, N: 338}}, {points(0, 0, 3, 1, 1, 2), impl.Ring{Count: 2, A: 0, B: 1, X: 3, Y: 1, D: 2, N: 10}},
		{points(0, 0, 3, 0, 1, 2), impl.Ring{Count: 3, A: 0, B: 1, C: 2, X: 3, Y: 1, D: 2, N: 10}}, {points(0, 0, 3, 0, 1, 3), impl.Ring{Count: 3, A: 0, B: 1, C: 2, X: 9, Y: 7, D: 6, N: 130}},
		// More than three on it: the least triple, though not the first three.
		{points(0, 5, 3, -4, -3, -4, 4, -3), impl.Ring{Count: 3, A: 0, B: 1, C: 2, D: 1, N: 25}}, {points(3, 4, 4, 3, 0, 5, -4, 3, 5, 0, 3, -4), impl.Ring{Count: 3, A: 0, B: 3, C: 5, D: 1, N: 25}},
		{points(4, 3, 5, 0, 4, 3, 3, 4, 0, 5, 3, -4, 0, 0, -4, 3), impl.Ring{Count: 3, A: 0, B: 5, C: 7, D: 1, N: 25}}, {points(5, 0, 4, 3, 3, -4, -4, 3, 0, 5), impl.Ring{Count: 3, A: 0, B: 2, C: 3, D: 1, N: 25}},
		// An angle that is just obtuse, at either end of the short side.
		{points(0, 0, 1, 0, -1, 5, 2, 5), impl.Ring{Count: 3, A: 0, B: 2, C: 3, X: 5, Y: 27, D: 10, N: 754}}, {points(-1, 5, 0, 0, 1, 0, 2, 5), impl.Ring{Count: 3, A: 0, B: 1, C: 3, X: 5, Y: 27, D: 10, N: 754}},
		// A pair is told though a lesser triple goes through the same circle.
		{points(0, 5, 3, -4, -3, -4, 4, -3, -4, 3), impl.Ring{Count: 2, A: 3, B: 4, D: 1, N: 25}},
		// Places more than once, points within ahead.
		{points(1, 1, 0, 0, 4, 0, 0, 0, 2, 4, 4, 0, 2, 2), impl.Ring{Count: 3, A: 1, B: 2, C: 4, X: 4, Y: 3, D: 2, N: 25}},
		// As far as can be.
		{points(-m, -m, m, m), impl.Ring{Count: 2, A: 0, B: 1, D: 1, N: 2 * m * m}}, {points(0, 0, m, m, -m, m, m, -m), impl.Ring{Count: 2, A: 2, B: 3, D: 1, N: 2 * m * m}},
		{points(-m, -m, m, -m, 0, m), impl.Ring{Count: 3, A: 0, B: 1, C: 2, X: 0, Y: -m / 4, D: 1, N: 250 * 250}},
	} {
		if got := checkRing(t, c.p); got != c.want {
			t.Error("RingOf", c.p, got, "not", c.want)
		}
	}
}

func TestRingsOfAllSmallLists(t *testing.T) {
	seen := map[int]int{}
	for length := 1; length <= 5; length++ {
		eachRow(square(3), length, func(p []impl.Point) { seen[checkRing(t, p).Count]++ })
	}
	for length := 1; length <= 3; length++ {
		eachRow(square(5), length, func(p []impl.Point) { seen[checkRing(t, p).Count]++ })
	}
	if seen[1] == 0 || seen[2] < 10000 || seen[3] < 10000 {
		t.Error("the lists are poor", seen)
	}
}

// No circle about another centre is as small.
func TestNoCircleIsSmaller(t *testing.T) {
	for length := 1; length <= 3; length++ {
		eachRow(square(3), length, func(p []impl.Point) {
			r, _ := impl.RingOf(p)
			for _, double := range square(5) {
				centre := ratPoint{ratOf(double.X, 2), ratOf(double.Y, 2)}
				farthest := new(big.Rat)
				for _, x := range p {
					if square := squareFrom(centre, x); square.Cmp(farthest) > 0 {
						farthest = square
					}
				}
				if order := farthest.Cmp(squareRadius(r)); order < 0 || order == 0 && centre.compare(centreIn(r)) != 0 {
					t.Fatal("RingOf", p, r, "is not below", farthest, "about", double, "by 2")
				}
			}
		})
	}
}

// onCircle: all whole points as far from 0, 0.
func onCircle(square int) []impl.Point {
	var list []impl.Point
	for x := -impl.MaxRing; x <= impl.MaxRing; x++ {
		for y := -impl.MaxRing; y <= impl.MaxRing; y++ {
			if x*x+y*y == square {
				list = append(list, at(x, y))
			}
		}
	}
	return list
}

// Of many points on one circle, in any order, with pairs across and without.
func TestRingsOfManyOnOneCircle(t *testing.T) {
	draw := rand.New(rand.NewSource(11))
	for _, circle := range []struct{ square, count int }{{25, 12}, {65, 16}, {325, 24}, {1105, 32}, {4225, 36}, {5525, 48}, {32045, 64}} {
		square := circle.square
		all := onCircle(square)
		if len(all) != circle.count {
			t.Fatal("the circle itself is wrong", square, len(all))
		}
		if r := checkRing(t, all); r.Count != 2 || r.N != square || r.D != 1 {
			t.Error("RingOf all on the circle", square, r)
		}
		triples := 0
		for range 60 {
			draw.Shuffle(len(all), func(i, j int) { all[i], all[j] = all[j], all[i] })
			checkRing(t, all[:1+draw.Intn(len(all))])
			if checkRing(t, noneAcross(all)).Count == 3 {
				triples++
			}
		}
		if triples < 40 {
			t.Error("the draw is poor", square, triples)
		}
	}
}

// noneAcross leaves out each point whose opposite stands ahead.
func noneAcross(p []impl.Point) []impl.Point {
	var kept []impl.Point
	for _, x := range p {
		if !slices.Contains(kept, at(-x.X, -x.Y)) {
			kept = append(kept, x)
		}
	}
	return kept
}

func TestRingsOfDrawnPoints(t *testing.T) {
	draw := rand.New(rand.NewSource(12))
	seen := map[int]int{}
	drawnLists(draw, func(p []impl.Point) {
		r := checkRing(t, p)
		seen[r.Count]++
		checkRingStirred(t, draw, p, r)
		checkRingGrown(t, draw, p, r)
	})
	if seen[1] < 100 || seen[2] < 500 || seen[3] < 300 {
		t.Error("the draw is poor", seen)
	}
}

// checkRingStirred: the circle does not hang on the order of the points, and
// moves and turns as they do.
func checkRingStirred(t *testing.T, draw *rand.Rand, p []impl.Point, r impl.Ring) {
	t.Helper()
	other, turned := slices.Clone(p), slices.Clone(p)
	draw.Shuffle(len(other), func(i, j int) { other[i], other[j] = other[j], other[i] })
	for i, x := range p {
		turned[i] = at(-x.Y, x.X)
	}
	got, code := impl.RingOf(other)
	if code != impl.OK || got.Count != r.Count || got.X != r.X || got.Y != r.Y || got.D != r.D || got.N != r.N {
		t.Fatal("RingOf stirred", other, got, code, "not", r)
	}
	r.X, r.Y = -r.Y, r.X
	if got, code = impl.RingOf(turned); got != r || code != impl.OK {
		t.Fatal("RingOf turned", turned, got, code, "not", r)
	}
}

// checkRingGrown: points that are there already, behind the others, change
// nothing; a point that is beyond the circle makes it greater, and only such.
func checkRingGrown(t *testing.T, draw *rand.Rand, p []impl.Point, r impl.Ring) {
	t.Helper()
	if len(p) == impl.MaxCorners {
		return
	}
	again := append(slices.Clone(p), p[draw.Intn(len(p))])
	if got, code := impl.RingOf(again); got != r || code != impl.OK {
		t.Fatal("RingOf with a point again", again, got, code, "not", r)
	}
	x := at(draw.Intn(401)-200, draw.Intn(401)-200)
	more := append(slices.Clone(p), x)
	got, code := impl.RingOf(more)
	beyond := squareFrom(centreIn(r), x).Cmp(squareRadius(r)) > 0
	if grown := squareRadius(got).Cmp(squareRadius(r)); code != impl.OK || beyond && grown <= 0 || !beyond && grown != 0 {
		t.Fatal("RingOf with one more", more, got, code, "not by", beyond, r)
	}
}

// Long rims, and the greatest numbers: all points are corners, and near to one
// circle, from either end and mixed.
func TestRingsOfTheMost(t *testing.T) {
	draw := rand.New(rand.NewSource(13))
	rim := roundRim()
	if hull, code := impl.Hull(rim); len(rim) < 150 || len(hull) != len(rim) || code != impl.OK {
		t.Fatal("the rim is poor", len(rim), len(hull), code)
	}
	for range 3 {
		checkRing(t, rim)
		checkRing(t, backwards(rim))
		checkZone(t, rim, directionsTo(3))
		draw.Shuffle(len(rim), func(i, j int) { rim[i], rim[j] = rim[j], rim[i] })
	}
	const m = impl.MaxRing
	for range 300 {
		near := func(x int) int { return x - x/m*draw.Intn(4) }
		p := []impl.Point{at(near(-m), near(-m)), at(near(m), near(-m)), at(near(-m), near(m)), at(near(m), draw.Intn(9)), at(draw.Intn(9), near(m))}
		draw.Shuffle(len(p), func(i, j int) { p[i], p[j] = p[j], p[i] })
		checkRing(t, p)
		checkZone(t, p, nil)
	}
}

// roundRim goes once round by short steps of all directions, as many as there
// is room for: each step ends at a corner.
func roundRim() []impl.Point {
	steps := directionsTo(9)
	for _, step := range directionsTo(9) {
		steps = append(steps, at(-step.X, -step.Y))
	}
	steps = slices.DeleteFunc(steps, func(s impl.Point) bool {
		return s.X*s.X+s.Y*s.Y > 90 || new(big.Int).GCD(nil, nil, bigSum(max(s.X, -s.X)), bigSum(max(s.Y, -s.Y))).Int64() != 1
	})
	slices.SortFunc(steps, func(a, b impl.Point) int {
		return cmp.Compare(math.Atan2(float64(a.Y), float64(a.X)), math.Atan2(float64(b.Y), float64(b.X)))
	})
	corner := at(0, -impl.MaxRing)
	var rim []impl.Point
	for _, step := range steps[len(steps)/2:] {
		rim = append(rim, corner)
		corner = at(corner.X+step.X, corner.Y+step.Y)
	}
	for _, step := range steps[:len(steps)/2] {
		rim = append(rim, corner)
		corner = at(corner.X+step.X, corner.Y+step.Y)
	}
	return rim
}
