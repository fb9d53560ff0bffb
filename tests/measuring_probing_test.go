package tests

import (
	"fmt"
	"math/big"
	"math/rand"
	"slices"
	"testing"

	"loop.example/g00056/impl"
)

// exactJudge goes by what may be true within the doubt: all of it is good, or
// none, in numbers that can not wrap.
func exactJudge(value, low, high, doubt int) (int, int) {
	for _, n := range []int{value, low, high, doubt} {
		if n < -impl.MaxAt || n > impl.MaxAt {
			return 0, impl.ErrBad
		}
	}
	if low > high || doubt < 0 {
		return 0, impl.ErrBad
	}
	first, last := max(value-doubt, low), min(value+doubt, high) // what is good of what may be true
	switch good := last - first + 1; {
	case good == 2*doubt+1:
		return impl.JuGood, impl.OK
	case good <= 0:
		return impl.JuBad, impl.OK
	}
	return impl.JuOpen, impl.OK
}

func checkJudge(t *testing.T, value, low, high, doubt int) (int, int) {
	t.Helper()
	got, code := impl.Judge(value, low, high, doubt)
	if want, wantCode := exactJudge(value, low, high, doubt); got != want || code != wantCode {
		t.Fatal("Judge", value, low, high, doubt, got, code, "not", want, wantCode)
	}
	return got, code
}

func TestJudgeTold(t *testing.T) {
	const m = impl.MaxAt
	for _, c := range []struct{ value, low, high, doubt, want int }{
		// The doubt ends just at low, at high, at both, and one beyond.
		{7, 5, 20, 2, impl.JuGood}, {6, 5, 20, 2, impl.JuOpen}, {18, 5, 20, 2, impl.JuGood}, {19, 5, 20, 2, impl.JuOpen}, {7, 5, 9, 2, impl.JuGood}, {7, 5, 9, 3, impl.JuOpen}, {7, 6, 9, 2, impl.JuOpen}, {7, 5, 8, 2, impl.JuOpen},
		// From the outside just at low, at high, and one short of it.
		{3, 5, 20, 2, impl.JuOpen}, {2, 5, 20, 2, impl.JuBad}, {22, 5, 20, 2, impl.JuOpen}, {23, 5, 20, 2, impl.JuBad},
		// No doubt.
		{5, 5, 9, 0, impl.JuGood}, {4, 5, 9, 0, impl.JuBad}, {9, 5, 9, 0, impl.JuGood}, {10, 5, 9, 0, impl.JuBad}, {7, 5, 9, 0, impl.JuGood},
		// One value alone is good.
		{5, 5, 5, 0, impl.JuGood}, {4, 5, 5, 0, impl.JuBad}, {6, 5, 5, 0, impl.JuBad}, {5, 5, 5, 1, impl.JuOpen}, {4, 5, 5, 1, impl.JuOpen}, {3, 5, 5, 1, impl.JuBad},
		// More doubt than there is room, below 0 too.
		{7, 5, 9, 50, impl.JuOpen}, {-30, -29, -28, 50, impl.JuOpen}, {-30, -40, -20, 10, impl.JuGood}, {-30, -40, -20, 11, impl.JuOpen}, {-51, -40, -20, 10, impl.JuBad}, {-50, -40, -20, 10, impl.JuOpen},
		// At the ends of all numbers that are right.
		{m, -m, m, 0, impl.JuGood}, {-m, -m, m, 0, impl.JuGood}, {m, -m, m, 1, impl.JuOpen}, {-m, -m, m, 1, impl.JuOpen}, {0, -m, m, m, impl.JuGood}, {1, -m, m, m, impl.JuOpen}, {m, -m, -m, m, impl.JuBad}, {m, -m, 0, m, impl.JuOpen},
		{m, -m, -1, m, impl.JuBad}, {-m, 0, m, m, impl.JuOpen}, {-m, 1, m, m, impl.JuBad}, {m, m, m, 0, impl.JuGood}, {-m, -m, -m, 0, impl.JuGood}, {m, m, m, m, impl.JuOpen}, {-m, m, m, m, impl.JuBad},
	} {
		if got, _ := checkJudge(t, c.value, c.low, c.high, c.doubt); got != c.want {
			t.Error("Judge", c, got)
		}
	}
}

// What is judged good is good whatever the doubt, what is bad is not, and of
// what is open some is and some is not.
func TestJudgeByWhatMayBeTrue(t *testing.T) {
	seen := map[int]int{}
	for value := -6; value <= 6; value++ {
		for low := -4; low <= 4; low++ {
			for high := low; high <= 4; high++ {
				for doubt := range 9 {
					good := 0
					for truth := value - doubt; truth <= value+doubt; truth++ {
						if low <= truth && truth <= high {
							good++
						}
					}
					got, _ := checkJudge(t, value, low, high, doubt)
					seen[got]++
					all, none := good == 2*doubt+1, good == 0
					if (got == impl.JuGood) != all || (got == impl.JuBad) != none || (got == impl.JuOpen) != (!all && !none) {
						t.Fatal("Judge", value, low, high, doubt, got, good)
					}
				}
			}
		}
	}
	if len(seen) != 3 {
		t.Error("the numbers are poor", seen)
	}
}

func TestJudgeOfAnyNumbers(t *testing.T) {
	const m = impl.MaxAt
	numbers := []int{least, least + 1, -1 << 32, -m - 1, -m, 1 - m, -2, -1, 0, 1, 2, m - 1, m, m + 1, 1 << 32, greatest - 1, greatest}
	codes := map[int]int{}
	for _, value := range numbers {
		for _, low := range numbers {
			for _, high := range numbers {
				for _, doubt := range numbers {
					_, code := checkJudge(t, value, low, high, doubt)
					codes[code]++
				}
			}
		}
	}
	if codes[impl.OK] == 0 || codes[impl.ErrBad] == 0 || len(codes) != 2 {
		t.Error("codes", codes)
	}
	for _, c := range [][4]int{{1, 3, 2, 0}, {1, 0, 2, -1}, {m + 1, 0, 2, 0}, {-m - 1, 0, 2, 0}, {1, -m - 1, 2, 0}, {1, 0, m + 1, 0}, {1, 0, 2, m + 1}, {1, greatest, least, 0}, {greatest, 0, 2, greatest}, {least, 0, 2, greatest}, {0, 0, 0, least}} {
		if got, code := impl.Judge(c[0], c[1], c[2], c[3]); got != 0 || code != impl.ErrBad {
			t.Error("Judge", c, got, code)
		}
	}
}

func stepLength(a, b impl.Point) int {
	return max(a.X-b.X, b.X-a.X) + max(a.Y-b.Y, b.Y-a.Y)
}

// checkWay: each point once; no step to one while a nearer one is left, nor one
// as near that stands ahead; the length is that of the steps.
func checkWay(t *testing.T, p []impl.Point, from impl.Point) []int {
	t.Helper()
	way, length, code := impl.Probing(p, from)
	if code != impl.OK || len(way) != len(p) {
		t.Fatal("Probing", short(p), from, short(way), length, code)
	}
	done := make([]bool, len(p))
	var lengths []int
	for _, number := range way {
		if number < 0 || number >= len(p) || done[number] {
			t.Fatal("Probing", short(p), from, short(way), "has twice or has not", number)
		}
		own := stepLength(from, p[number])
		for other, x := range p {
			apart := stepLength(from, x)
			if !done[other] && (apart < own || apart == own && other < number) {
				t.Fatal("Probing", short(p), from, short(way), "goes to", number, "not to", other)
			}
		}
		done[number] = true
		lengths = append(lengths, own)
		from = p[number]
	}
	if bigSum(lengths...).Cmp(big.NewInt(int64(length))) != 0 {
		t.Fatal("Probing", short(p), short(way), length, "not", lengths)
	}
	return way
}

func TestWaysTold(t *testing.T) {
	const m = impl.MaxAt
	for _, c := range []struct {
		p      []impl.Point
		from   impl.Point
		want   []int
		length int
	}{
		{nil, at(0, 0), nil, 0}, {points(), at(m, -m), nil, 0}, {points(3, 4), at(0, 0), []int{0}, 7}, {points(3, 4), at(3, 4), []int{0}, 0}, {points(-3, -4), at(1, 1), []int{0}, 9},
		// From a point of the list, from between, from elsewhere.
		{points(0, 0, 1, 0, 3, 0), at(0, 0), []int{0, 1, 2}, 3}, {points(0, 0, 1, 0, 3, 0), at(1, 0), []int{1, 0, 2}, 4}, {points(0, 0, 1, 0, 3, 0), at(3, 0), []int{2, 1, 0}, 3}, {points(0, 0, 1, 0, 3, 0), at(2, 0), []int{1, 0, 2}, 5}, {points(0, 0, 1, 0, 3, 0), at(9, 9), []int{2, 1, 0}, 18},
		// As near: the first in p, from each new point anew.
		{points(1, 0, 0, 1, -1, 0, 0, -1), at(0, 0), []int{0, 1, 2, 3}, 7}, {points(0, -1, -1, 0, 0, 1, 1, 0), at(0, 0), []int{0, 1, 2, 3}, 7}, {points(2, 0, 0, 2, 1, 1), at(0, 0), []int{0, 2, 1}, 6}, {points(0, 2, 2, 0, 1, 1), at(0, 0), []int{0, 2, 1}, 6},
		{points(5, 5, 4, 4, 4, 4, 5, 5), at(4, 4), []int{1, 2, 0, 3}, 2}, {points(7, 7, 7, 7, 7, 7), at(7, 7), []int{0, 1, 2}, 0}, {points(9, 0, 7, 7, 9, 0, 7, 7), at(0, 0), []int{0, 2, 1, 3}, 18},
		// Three that are left keep their order when one from behind is taken.
		{points(4, 0, 0, 4, -4, 0, 1, 0), at(0, 0), []int{3, 0, 1, 2}, 1 + 3 + 8 + 8}, {points(-3, 0, 3, 0, 0, 3, 0, 0, 0, -3), at(0, 0), []int{3, 0, 1, 2, 4}, 0 + 3 + 6 + 6 + 6},
		// The sum counts, not the way of a bird: 3 + 3 is farther than 5.
		{points(3, 3, 5, 0), at(0, 0), []int{1, 0}, 10}, {points(3, 3, 0, -5), at(0, 0), []int{1, 0}, 16}, {points(3, 3, 6, 0), at(0, 0), []int{0, 1}, 12},
		// It is not the shortest way of all.
		{points(1, 0, -2, 0, 4, 0), at(0, 0), []int{0, 1, 2}, 1 + 3 + 6},
		// As far as can be.
		{points(m, m, -m, -m, m, m), at(-m, -m), []int{1, 0, 2}, 4 * m}, {points(m, -m), at(-m, m), []int{0}, 4 * m},
	} {
		got := checkWay(t, c.p, c.from)
		if _, length, _ := impl.Probing(c.p, c.from); !slices.Equal(got, c.want) || length != c.length {
			t.Error("Probing", c.p, c.from, got, length, "not", c.want, c.length)
		}
	}
}

func TestWaysThroughAllSmallLists(t *testing.T) {
	for length := range 5 {
		eachRow(square(3), length, func(p []impl.Point) {
			checkWay(t, p, at(1, 1))
			checkWay(t, p, at(0, 2))
			checkWay(t, p, at(-1, 4))
		})
	}
}

func TestWaysThroughDrawnPoints(t *testing.T) {
	draw := rand.New(rand.NewSource(14))
	for _, size := range []struct{ most, reach, times int }{{9, 2, 400}, {30, 5, 200}, {impl.MaxCorners, 9, 20}, {impl.MaxCorners, 200, 20}, {impl.MaxCorners, impl.MaxAt, 20}} {
		for range size.times {
			p := drawnPlaces(draw, draw.Intn(size.most+1), size.reach)
			from := drawnPlaces(draw, 1, size.reach)[0]
			way := checkWay(t, p, from)
			// Moved and turned together, the way stays as it is.
			turned := slices.Clone(p)
			for i, x := range p {
				turned[i] = at(-x.Y, x.X)
			}
			if got, _, code := impl.Probing(turned, at(-from.Y, from.X)); !slices.Equal(got, way) || code != impl.OK {
				t.Fatal("Probing turned", short(turned), short(got), code, "not", short(way))
			}
			if len(p) > 0 {
				checkWay(t, p, p[draw.Intn(len(p))])
			}
		}
	}
}

// exactMeasured: the code of the first two calls.
func exactMeasured(p []impl.Point, fewest, reach int) int {
	if len(p) > impl.MaxList {
		return impl.ErrLong
	}
	if len(p) < fewest || len(p) > impl.MaxCorners {
		return impl.ErrBad
	}
	for _, x := range p {
		for _, n := range []int{x.X, x.Y} {
			if n < -reach || n > reach {
				return impl.ErrBad
			}
		}
	}
	return impl.OK
}

// checkCodes: the codes of the three calls, and all else zero with one.
func checkCodes(t *testing.T, p []impl.Point, from impl.Point, ringed, probed int) {
	t.Helper()
	if exactMeasured(p, 1, impl.MaxRing) != ringed || max(exactMeasured(p, 0, impl.MaxAt), exactMeasured([]impl.Point{from}, 1, impl.MaxAt)) != probed {
		t.Fatal("the case itself is wrong", len(p), short(p), from, ringed, probed)
	}
	if z, code := impl.ZoneOf(p); code != ringed || code != impl.OK && z != (impl.Zone{}) {
		t.Error("ZoneOf", len(p), short(p), z, code, "not", ringed)
	}
	if r, code := impl.RingOf(p); code != ringed || code != impl.OK && r != (impl.Ring{}) {
		t.Error("RingOf", len(p), short(p), r, code, "not", ringed)
	}
	if way, length, code := impl.Probing(p, from); code != probed || code != impl.OK && (len(way) != 0 || length != 0) {
		t.Error("Probing", len(p), short(p), from, short(way), length, code, "not", probed)
	}
}

func TestMeasuredByHowMany(t *testing.T) {
	checkCodes(t, nil, at(0, 0), impl.ErrBad, impl.OK)
	checkCodes(t, points(), at(0, 0), impl.ErrBad, impl.OK)
	for count, code := range map[int]int{
		1: impl.OK, 2: impl.OK, 3: impl.OK, impl.MaxCorners - 1: impl.OK, impl.MaxCorners: impl.OK, impl.MaxCorners + 1: impl.ErrBad, 2 * impl.MaxCorners: impl.ErrBad,
		impl.MaxList - 1: impl.ErrBad, impl.MaxList: impl.ErrBad, impl.MaxList + 1: impl.ErrLong, 2 * impl.MaxList: impl.ErrLong,
	} {
		p := make([]impl.Point, count)
		checkCodes(t, p, at(0, 0), code, code)
		for i := range p {
			p[i] = at(i%19-9, i%23)
		}
		checkCodes(t, p, at(0, 0), code, code)
		// With something wrong besides, what is not too long is bad.
		other := max(impl.ErrBad, code)
		checkCodes(t, p, wrongPoints[0], code, other)
		for _, place := range []int{0, count / 2, count - 1} {
			wrong := slices.Clone(p)
			wrong[place] = at(0, impl.MaxAt+1)
			checkCodes(t, wrong, at(0, 0), other, other)
			wrong[place] = at(-impl.MaxRing-1, 0)
			checkCodes(t, wrong, at(0, 0), other, code)
		}
	}
}

func TestMeasuredByWhere(t *testing.T) {
	const r, m = impl.MaxRing, impl.MaxAt
	for _, number := range []int{least, least + 1, -1 << 32, -m - 1, -m, -r - 2, -r - 1, -r, 1 - r, -1, 0, 1, r - 1, r, r + 1, r + 2, m, m + 1, 1 << 32, greatest - 1, greatest} {
		ringed, probed := impl.OK, impl.OK
		if number < -r || number > r {
			ringed = impl.ErrBad
		}
		if number < -m || number > m {
			probed = impl.ErrBad
		}
		for place := range 4 {
			for _, wrong := range []impl.Point{at(number, 0), at(0, number), at(number, number), at(number, r), at(-r, number)} {
				p := points(0, 0, 4, 0, 4, 3, 1, 2)
				p[place] = wrong
				checkCodes(t, p, at(0, 0), ringed, probed)
				checkCodes(t, []impl.Point{wrong}, at(0, 0), ringed, probed)
				checkCodes(t, points(1, 2, 3, 4, 0, 0), wrong, impl.OK, probed)
				checkCodes(t, nil, wrong, impl.ErrBad, probed)
			}
		}
	}
	for _, wrong := range wrongPoints {
		checkCodes(t, points(1, 2, 3, 4, 0, 0), wrong, impl.OK, impl.ErrBad)
		checkCodes(t, nil, wrong, impl.ErrBad, impl.ErrBad)
		checkCodes(t, append(points(1, 2, 3, 4, 0, 0), wrong), at(0, 0), impl.ErrBad, impl.ErrBad)
		checkCodes(t, append(make([]impl.Point, impl.MaxList), wrong), wrong, impl.ErrLong, impl.ErrLong)
	}
}

func TestMeasuringAnswersAreNewMemory(t *testing.T) {
	behind := at(55, 66)
	for _, p := range [][]impl.Point{
		nil, points(3, 3), points(2, 2, 0, 0, 1, 1), points(0, 0, 4, 0, 2, 4, 2, 1, 4, 0), points(4, 3, 5, 0, 4, 3, 3, 4, 0, 5, 3, -4, 0, 0, -4, 3),
		make([]impl.Point, impl.MaxCorners), make([]impl.Point, impl.MaxCorners+1), points(0, 0, greatest, least), points(9, 9, 1, 1, 8, 8, 2, 2),
	} {
		array := append(slices.Clone(p), behind, behind, behind)
		given := array[:len(p)]
		all := func() string {
			z, zoneCode := impl.ZoneOf(given)
			r, ringCode := impl.RingOf(given)
			way, length, code := impl.Probing(given, at(0, 0))
			told := fmt.Sprint(z, zoneCode, r, ringCode, way, length, code)
			spoilNumbers(way)
			return told
		}
		first := all()
		if again := all(); again != first {
			t.Error("answers share memory", short(p), first, again)
		}
		if !slices.Equal(array, append(slices.Clone(p), behind, behind, behind)) {
			t.Error("an argument was changed", short(p), short(array))
		}
	}
}

// measuringCalls: calls of every function of the layer, right, at an edge and wrong.
func measuringCalls() []func() string {
	var calls []func() string
	tell := func(call func() string) { calls = append(calls, call) }
	for _, c := range [][4]int{{5, 0, 10, 5}, {5, 0, 10, 6}, {13, 0, 10, 2}, {1, 3, 2, 0}, {1, 0, 2, -1}, {0, -impl.MaxAt, impl.MaxAt, impl.MaxAt}, {least, least, greatest, greatest}} {
		tell(func() string { return fmt.Sprint(impl.Judge(c[0], c[1], c[2], c[3])) })
	}
	for _, p := range [][]impl.Point{
		nil, points(3, 3), points(5, 5, 1, 1, 3, 3), points(0, 0, 4, 0, 4, 2, 2, 1, 0, 2), points(0, 0, 4, 0, 2, 4, 2, 1), roundRim(), points(201, 0), points(greatest, least),
		make([]impl.Point, impl.MaxCorners+1), make([]impl.Point, impl.MaxList+1),
	} {
		tell(func() string { return fmt.Sprint(impl.ZoneOf(p)) })
		tell(func() string { return fmt.Sprint(impl.RingOf(p)) })
		for _, from := range append(points(0, 0, 4, 4), wrongPoints[:3]...) {
			tell(func() string { return fmt.Sprint(impl.Probing(p, from)) })
		}
	}
	return calls
}
