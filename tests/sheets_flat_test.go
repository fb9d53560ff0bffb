package tests

import (
	"fmt"
	"math/big"
	"math/rand"
	"slices"
	"testing"

	"loop.example/g00056/impl"
)

func checkFlat(t *testing.T, corners []impl.Point, s strip) {
	t.Helper()
	if panels, bends, code := impl.Flat(corners); code != impl.OK || !slices.Equal(panels, s.panels) || !slices.Equal(bends, s.bends) {
		t.Fatal("Flat", short(corners), panels, bends, code, "not", s)
	}
}

func checkFlatCode(t *testing.T, p []impl.Point, code int) {
	t.Helper()
	if panels, bends, got := impl.Flat(p); got != code || len(panels) != 0 || len(bends) != 0 {
		t.Fatal("Flat", short(p), panels, bends, got, "not", code)
	}
}

func checkNotFlat(t *testing.T, p []impl.Point) {
	t.Helper()
	checkFlatCode(t, p, impl.ErrBad)
}

func TestFlatTold(t *testing.T) {
	for _, c := range []struct {
		p    []impl.Point
		told string
	}{
		{points(0, 0, 1, 0), "1"}, {points(0, 0, 1000, 0), "1000"}, {points(0, 0, 4, 0, 4, 3, 2, 3), "4 L3 L2"}, {points(0, 0, 4, 0, 4, -3, 2, -3), "4 R3 R2"},
		{points(0, 0, 2, 0, 5, 0, 5, -1), "2 S3 R1"}, {points(0, 0, 2, 0, 2, 5, 1, 5, 1, 9, -7, 9), "2 L5 L1 R4 L8"}, {points(0, 0, 1000, 0, 2000, 0, 2000, 1000, 2000, 2000, 1000, 2000, 0, 2000), "1000 S1000 L1000 S1000 L1000 S1000"},
		{points(0, 0, 1, 0, 2, 0, 3, 0), "1 S1 S1"}, {points(0, 0, 4, 0, 4, 3, 0, 3, 0, 1), "4 L3 L4 L2"},
	} {
		checkFlat(t, c.p, stripTold(t, c.told))
	}
	for _, p := range [][]impl.Point{
		// too few
		nil, {}, points(0, 0), points(3, 0), points(least, greatest),
		// two at one place, side by side or not
		points(0, 0, 0, 0), points(0, 0, 3, 0, 3, 0), points(0, 0, 0, 0, 3, 0), points(0, 0, 3, 0, 3, 0, 3, 2), points(0, 0, 3, 0, 3, 2, 3, 2), points(0, 0, 3, 0, 3, 2, 0, 2, 0, 0),
		// slanting
		points(0, 0, 1, 1), points(0, 0, 3, -1), points(0, 0, 3, 0, 4, 1), points(0, 0, 3, 0, 2, 1), points(0, 0, 3, 0, 4, 5, 4, 6), points(0, 0, 3, 0, 3, 4, 9, 5), points(0, 0, 3, 4), points(0, 0, 4, 0, 4, 4, 1, 8),
		// not from 0, 0 on
		points(1, 0, 3, 0), points(-1, 0, 3, 0), points(0, 1, 3, 1), points(0, -1, 3, -1), points(0, 1, 3, 0), points(0, 0, 3, 0, 3, 2)[1:], points(5, 5, 9, 5, 9, 8),
		// not to greater X first
		points(0, 0, -3, 0), points(0, 0, 0, 3), points(0, 0, 0, -3), points(0, 0, 0, 3, 1, 3), points(0, 0, -3, 0, -3, 5), points(0, 0, 0, -2, -2, -2),
		// back on the same way
		points(0, 0, 3, 0, 1, 0), points(0, 0, 3, 0, 0, 0), points(0, 0, 3, 0, -4, 0), points(0, 0, 3, 0, 3, 4, 3, 2), points(0, 0, 3, 0, 3, 4, 3, 0), points(0, 0, 3, 0, 3, 4, 3, -4), points(0, 0, 3, 0, 3, 4, 2, 4, 3, 4), points(0, 0, 3, 0, 3, 4, 2, 4, 9, 4),
		// they meet themselves
		points(0, 0, 4, 0, 4, 3, 0, 3, 0, 0), points(0, 0, 4, 0, 4, 3, 2, 3, 2, 0), points(0, 0, 4, 0, 4, 3, 2, 3, 2, -1), points(0, 0, 4, 0, 4, 3, -2, 3, -2, 0, 1, 0),
		// too long
		points(0, 0, 1001, 0), points(0, 0, 3, 0, 3, 1001), points(0, 0, 3, 0, 3, -1001), points(0, 0, 1, 0, 1, 1, -1000, 1), points(0, 0, 3, 0, 3, 2, 2000, 2), points(0, 0, impl.MaxAt, 0), points(0, 0, 3, 0, 3, impl.MaxAt),
	} {
		checkNotFlat(t, p)
	}
}

// A strip has at most MaxPanels panels, so many corners and one more.
func TestFlatByHowMany(t *testing.T) {
	along := func(count int) []impl.Point {
		var p []impl.Point
		for i := range count {
			p = append(p, at(i, 0))
		}
		return p
	}
	for count := 2; count <= impl.MaxPanels+1; count++ {
		checkFlat(t, along(count), strip{allOf(1, count-1), allOf(0, count-2)})
		checkFlat(t, stripped(stairs(count-1, longest)), stairs(count-1, longest))
	}
	for _, count := range []int{0, 1, impl.MaxPanels + 2, impl.MaxPanels + 3, 100, impl.MaxCorners, impl.MaxCorners + 1, impl.MaxList - 1, impl.MaxList} {
		checkNotFlat(t, along(count))
		checkNotFlat(t, make([]impl.Point, count))
		if count > 1 {
			checkNotFlat(t, stripped(stairs(count-1, 1)))
		}
	}
	for _, count := range []int{impl.MaxList + 1, 2 * impl.MaxList} {
		checkFlatCode(t, along(count), impl.ErrLong)
		checkFlatCode(t, make([]impl.Point, count), impl.ErrLong)
		checkFlatCode(t, slices.Repeat(points(greatest, least), count), impl.ErrLong)
	}
}

func TestFlatOfAnyNumbers(t *testing.T) {
	const m = impl.MaxAt
	numbers := []int{least, least + 1, -1 << 32, -m - 1, -m, -longest - 1, -longest, -1, 0, 1, longest, longest + 1, m, m + 1, 1 << 32, 1<<32 + 1, greatest - 1, greatest}
	flat := 0
	for _, a := range numbers {
		for _, b := range numbers {
			for _, c := range numbers {
				p := points(0, 0, a, 0, b, c)
				// the first panel ends at 1 or at 1000; the second one goes up, down or on
				goesOn := b == a && (c == 1 || c == -1 || c == longest || c == -longest) || c == 0 && (a == 1 && b == longest || a < b && b == longest+1)
				if (a == 1 || a == longest) && goesOn {
					flat++
					if _, _, code := impl.Flat(p); code != impl.OK {
						t.Error("Flat", p, code)
					}
					continue
				}
				checkNotFlat(t, p)
			}
			if a != 0 || b != 0 {
				checkNotFlat(t, points(a, b, a+1, b)) // a sum may wrap: then it is no neighbour at all
				checkNotFlat(t, points(a, b, 1, 0))
				checkNotFlat(t, points(a, b))
			}
		}
	}
	if flat != 11 {
		t.Error("strips:", flat)
	}
	// differences that would wrap into what a panel is long
	for _, p := range [][]impl.Point{points(0, 0, greatest, 0, least, 0), points(0, 0, 5, 0, 5, greatest, 5, least), points(greatest, 0, least, 0), points(least, least, least+3, least), points(0, 0, 1<<32+3, 0), points(0, 0, 3, 0, 3, 1<<32+4), points(greatest, greatest, least, greatest)} {
		checkNotFlat(t, p)
	}
}

// All rows of near points: those are flat that are a strip's corners.
func TestFlatOfAllNearPoints(t *testing.T) {
	known := map[string]strip{}
	for panels := 1; panels <= 3; panels++ {
		eachStrip(panels, 5, func(s strip) {
			if corners, code, _ := walked(s); code == impl.OK {
				known[fmt.Sprint(corners)] = s.copied()
			}
		})
	}
	found := 0
	var near []impl.Point
	for x := -2; x <= 3; x++ {
		for y := -1; y <= 2; y++ {
			near = append(near, at(x, y))
		}
	}
	check := func(p []impl.Point) {
		if s, ok := known[fmt.Sprint(p)]; ok {
			found++
			checkFlat(t, p, s)
			return
		}
		checkNotFlat(t, p)
	}
	for _, a := range near {
		check([]impl.Point{a})
		for _, b := range near {
			check([]impl.Point{a, b})
			for _, c := range near {
				check([]impl.Point{a, b, c})
				check([]impl.Point{at(0, 0), a, b, c})
			}
		}
	}
	if found < 50 {
		t.Error("strips:", found)
	}
}

// One corner that is moved by one is no strip's any more, but for ends that are
// moved along their panel, and straight ones.
func TestFlatOfSpoiltCorners(t *testing.T) {
	draw := rand.New(rand.NewSource(162))
	codes := map[int]int{}
	for range 3000 {
		s := drawnStrip(draw, 1+draw.Intn(12), 6, 0)
		corners, code, _ := impl.Bent(s.panels, s.bends)
		if code != impl.OK {
			continue
		}
		place := draw.Intn(len(corners))
		way := points(1, 0, 0, 1, -1, 0, 0, -1)[draw.Intn(4)]
		corners[place] = at(corners[place].X+way.X, corners[place].Y+way.Y)
		panels, bends, code := impl.Flat(corners)
		codes[code]++
		if code != impl.OK {
			checkNotFlat(t, corners)
			continue
		}
		if again, againCode, _ := impl.Bent(panels, bends); againCode != impl.OK || !slices.Equal(again, corners) || len(panels) != len(s.panels) {
			t.Fatal("Flat", corners, panels, bends)
		}
	}
	if codes[impl.OK] < 20 || codes[impl.ErrBad] < 500 {
		t.Error("codes", codes)
	}
}

func exactLengthCode(panels, angles []int, radius, thick int) int {
	bends := make([]int, len(angles))
	if code := exactStripCode(strip{panels, bends}); code != impl.OK {
		return code
	}
	for _, angle := range angles {
		if angle < 0 || angle > 180 {
			return impl.ErrBad
		}
	}
	if radius < 0 || radius > longest || thick < 0 || thick > longest {
		return impl.ErrBad
	}
	return impl.OK
}

// exactLength: of each bend so much of a half turn as it has, a half turn being
// 22/7 of the radius, and that in the middle of the sheet.
func exactLength(panels, angles []int, radius, thick int) *big.Rat {
	length := new(big.Rat)
	for _, panel := range panels {
		length.Add(length, big.NewRat(int64(panel), 1))
	}
	middle := new(big.Rat).Add(big.NewRat(int64(radius), 1), big.NewRat(int64(thick), 2))
	halfTurn := middle.Mul(middle, big.NewRat(22, 7))
	for _, angle := range angles {
		length.Add(length, new(big.Rat).Mul(halfTurn, big.NewRat(int64(angle), 180)))
	}
	return length
}

func checkLength(t *testing.T, panels, angles []int, radius, thick int) impl.Frac {
	t.Helper()
	got, code := impl.FlatLength(panels, angles, radius, thick)
	want := exactLength(panels, angles, radius, thick)
	if code != impl.OK || !impl.FracOK(got) || big.NewRat(int64(got.N), int64(got.D)).Cmp(want) != 0 {
		t.Fatal("FlatLength", panels, angles, radius, thick, got, code, "not", want)
	}
	return got
}

func TestFlatLengthTold(t *testing.T) {
	for _, c := range []struct {
		panels, angles []int
		radius, thick  int
		n, d           int
	}{
		{[]int{10}, nil, 3, 1, 10, 1}, {[]int{1}, nil, 0, 0, 1, 1}, {[]int{1000}, []int{}, 1000, 1000, 1000, 1},
		{[]int{10, 20}, []int{90}, 3, 1, 71, 2}, {[]int{10, 20}, []int{180}, 3, 1, 41, 1}, {[]int{10, 20}, []int{0}, 3, 1, 30, 1}, {[]int{10, 20}, []int{45}, 3, 1, 131, 4},
		// no radius, no thickness, neither
		{[]int{10, 20}, []int{180}, 7, 0, 52, 1}, {[]int{10, 20}, []int{180}, 0, 7, 41, 1}, {[]int{10, 20}, []int{180}, 0, 0, 30, 1}, {[]int{1, 1}, []int{180}, 1, 0, 36, 7}, {[]int{1, 1}, []int{180}, 0, 1, 25, 7},
		// the least parts
		{[]int{1, 1}, []int{1}, 0, 1, 2531, 1260}, {[]int{1, 1}, []int{1}, 1, 0, 1271, 630}, {[]int{1, 1}, []int{1}, 1, 1, 851, 420}, {[]int{1, 1}, []int{179}, 0, 1, 4489, 1260},
		// several bends, each with its own angle
		{[]int{5, 6, 7}, []int{90, 90}, 3, 1, 29, 1}, {[]int{5, 6, 7}, []int{0, 90}, 3, 1, 47, 2}, {[]int{5, 6, 7}, []int{90, 0}, 3, 1, 47, 2}, {[]int{5, 6, 7, 8}, []int{30, 60, 90}, 3, 1, 37, 1},
		// parts that come to whole numbers only together
		{[]int{1, 1, 1}, []int{1, 179}, 0, 7, 14, 1}, {[]int{1, 1, 1, 1}, []int{60, 60, 60}, 0, 7, 15, 1},
		// the most
		{[]int{1000, 1000}, []int{180}, 1000, 1000, 47000, 7}, {[]int{1000, 1000}, []int{180}, 1000, 0, 36000, 7}, {[]int{1000, 1000}, []int{180}, 0, 1000, 25000, 7},
		{allOf(1000, 40), allOf(180, 39), 1000, 1000, 1567000, 7}, {allOf(1000, 40), allOf(0, 39), 1000, 1000, 40000, 1}, {allOf(1000, 40), allOf(180, 39), 0, 0, 40000, 1}, {allOf(1, 40), allOf(1, 39), 0, 1, 16943, 420},
	} {
		got, code := impl.FlatLength(c.panels, c.angles, c.radius, c.thick)
		if got != (impl.Frac{N: c.n, D: c.d}) || code != impl.OK {
			t.Error("FlatLength", c.panels, c.angles, c.radius, c.thick, got, code, "not", c.n, c.d)
		}
		checkLength(t, c.panels, c.angles, c.radius, c.thick)
	}
}

func TestFlatLengthOfEachAngle(t *testing.T) {
	for angle := range 181 {
		for _, radius := range []int{0, 1, 2, 5, 7, 31, 999, longest} {
			for _, thick := range []int{0, 1, 2, 3, 7, 13, 999, longest} {
				checkLength(t, []int{3, 4}, []int{angle}, radius, thick)
			}
		}
	}
}

// Whatever is right is not too great: the greatest sum has a right fraction, the
// one with the most parts too.
func TestFlatLengthOfDrawnStrips(t *testing.T) {
	draw := rand.New(rand.NewSource(163))
	parts := 0
	for range 5000 {
		count := 1 + draw.Intn(impl.MaxPanels)
		var panels, angles []int
		for i := range count {
			panels = append(panels, 1+draw.Intn(longest))
			if i > 0 {
				angles = append(angles, draw.Intn(181))
			}
		}
		radius, thick := draw.Intn(longest+1), draw.Intn(longest+1)
		got := checkLength(t, panels, angles, radius, thick)
		parts = max(parts, got.D)
		slices.Reverse(panels)
		slices.Reverse(angles)
		if back := checkLength(t, panels, angles, radius, thick); back != got {
			t.Fatal("FlatLength the other way round", panels, angles, got, back)
		}
	}
	if parts != 1260 {
		t.Error("parts", parts)
	}
	checkLength(t, allOf(longest, impl.MaxPanels), append(allOf(180, impl.MaxPanels-2), 179), longest, 999)
}

func checkNoLength(t *testing.T, panels, angles []int, radius, thick, code int) {
	t.Helper()
	if want := exactLengthCode(panels, angles, radius, thick); want != code {
		t.Fatal("the case itself is wrong", short(panels), short(angles), radius, thick, want, code)
	}
	if got, gotCode := impl.FlatLength(panels, angles, radius, thick); got != (impl.Frac{}) || gotCode != code {
		t.Error("FlatLength", short(panels), short(angles), radius, thick, got, gotCode, "not", code)
	}
}

func TestNoFlatLengths(t *testing.T) {
	wrongAngles := []int{-1, 181, 360, -90, least, greatest, 1 << 32, 1<<32 + 90, -1 << 32}
	wrongSizes := []int{-1, longest + 1, least, greatest, 1 << 32, 1<<32 + 5, -1 << 32, greatest / 2, greatest/2 + 2}
	checkNoLength(t, nil, nil, 3, 1, impl.ErrBad)
	for place := range 3 {
		for _, length := range wrongLengths {
			panels := []int{4, 5, 6}
			panels[place] = length
			checkNoLength(t, panels, []int{90, 30}, 3, 1, impl.ErrBad)
		}
	}
	for place := range 2 {
		for _, angle := range wrongAngles {
			angles := []int{90, 30}
			angles[place] = angle
			checkNoLength(t, []int{4, 5, 6}, angles, 3, 1, impl.ErrBad)
		}
	}
	for _, size := range wrongSizes {
		checkNoLength(t, []int{4, 5}, []int{90}, size, 1, impl.ErrBad)
		checkNoLength(t, []int{4, 5}, []int{90}, 3, size, impl.ErrBad)
		checkNoLength(t, []int{4, 5}, []int{90}, size, size, impl.ErrBad)
		checkNoLength(t, []int{4}, nil, size, 1, impl.ErrBad)
		checkNoLength(t, []int{4}, nil, 3, size, impl.ErrBad)
		checkNoLength(t, []int{4, 5}, []int{0}, size, 1, impl.ErrBad)
	}
	for count := range 6 {
		for bends := range 6 {
			if count == 0 || bends != count-1 {
				checkNoLength(t, allOf(5, count), allOf(90, bends), 3, 1, impl.ErrBad)
			}
		}
	}
	for _, count := range []int{41, 100, impl.MaxList} {
		checkNoLength(t, allOf(5, count), allOf(90, count-1), 3, 1, impl.ErrBad)
	}
	for _, number := range []int{1, 0, least, greatest} {
		checkNoLength(t, allOf(number, impl.MaxList+1), allOf(number, impl.MaxList), number, number, impl.ErrLong)
		checkNoLength(t, allOf(number, impl.MaxList+1), nil, 3, 1, impl.ErrLong)
		checkNoLength(t, []int{5, 6}, allOf(number, impl.MaxList+1), number, 1, impl.ErrLong)
		checkNoLength(t, nil, allOf(number, impl.MaxList+1), 3, number, impl.ErrLong)
	}
}
