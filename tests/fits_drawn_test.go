package tests

import (
	"fmt"
	"math/rand"
	"slices"
	"testing"

	"loop.example/g00056/impl"
)

func drawnSizes(draw *rand.Rand, count, reach int) []int {
	sizes := make([]int, count)
	for i := range sizes {
		sizes[i] = drawnNear(draw, 0, reach)
	}
	return sizes
}

func drawnMatch(draw *rand.Rand, most, reach int) match {
	m := match{holes: drawnSizes(draw, draw.Intn(most+1), reach), shafts: drawnSizes(draw, draw.Intn(most+1), reach)}
	m.low = draw.Intn(2*reach+1) - reach
	m.high = m.low + draw.Intn(reach-m.low+1)
	if draw.Intn(2) == 0 { // a narrow one, about the middle
		m.low = draw.Intn(reach/4+1) - draw.Intn(reach/4+1)
		m.high = min(reach, m.low+draw.Intn(reach/8+1))
	}
	return m
}

func TestDrawnMatches(t *testing.T) {
	draw := rand.New(rand.NewSource(9))
	reasons, grown := 0, 0
	for _, size := range []struct{ most, reach, times int }{{8, 4, 2000}, {8, 20, 2000}, {30, 40, 500}, {60, 300, 200}, {impl.MaxMates, 400, 30}, {impl.MaxMates, impl.MaxAt, 30}} {
		for range size.times {
			m := drawnMatch(draw, size.most, size.reach)
			pairs, holes, _ := checkMatch(t, m)
			if len(holes) > 0 {
				reasons++
			}
			if len(holes) > len(m.holes)-len(pairs) {
				grown++
			}
			checkPushed(t, m, pairs)
			checkOtherWay(t, m, pairs)
			checkStirred(t, draw, m, pairs)
		}
	}
	if reasons < 500 || grown < 200 {
		t.Error("the draw is poor: of reasons", reasons, "of those that grow", grown)
	}
}

func added(sizes []int, number int) []int {
	sum := slices.Clone(sizes)
	for i := range sum {
		sum[i] += number
	}
	return sum
}

// checkPushed: where both grow alike, or the holes and the bounds do, the pairs
// stay as they are, and so does the reason.
func checkPushed(t *testing.T, m match, pairs []impl.Pair) {
	t.Helper()
	for _, pushed := range []match{
		{added(m.holes, 3), added(m.shafts, 3), m.low, m.high},
		{added(m.holes, 3), m.shafts, m.low + 3, m.high + 3},
		{m.holes, added(m.shafts, 3), m.low - 3, m.high - 3},
	} {
		if exactMatchCode(pushed) != impl.OK {
			continue
		}
		if got, code := impl.Matched(pushed.holes, pushed.shafts, pushed.low, pushed.high); !slices.Equal(got, pairs) || code != impl.OK {
			t.Fatal("pushed", pushed, short(got), code, "not", short(pairs))
		}
		checkMatch(t, pushed)
	}
}

// checkOtherWay: with the shafts as holes there are as many pairs.
func checkOtherWay(t *testing.T, m match, pairs []impl.Pair) {
	t.Helper()
	if got, code := impl.Matched(m.shafts, m.holes, -m.high, -m.low); len(got) != len(pairs) || code != impl.OK {
		t.Fatal("the other way round", m, len(got), code, "not", len(pairs))
	}
}

func stirred(draw *rand.Rand, sizes []int) []int {
	list := slices.Clone(sizes)
	draw.Shuffle(len(list), func(i, j int) { list[i], list[j] = list[j], list[i] })
	return list
}

// checkStirred: the sizes in pairs do not hang on the order of the lists.
func checkStirred(t *testing.T, draw *rand.Rand, m match, pairs []impl.Pair) {
	t.Helper()
	other := match{stirred(draw, m.holes), stirred(draw, m.shafts), m.low, m.high}
	got, code := impl.Matched(other.holes, other.shafts, other.low, other.high)
	if code != impl.OK || len(got) != len(pairs) {
		t.Fatal("stirred", other, short(got), code, "not", short(pairs))
	}
	for i, p := range pairs {
		if m.holes[p.Hole] != other.holes[got[i].Hole] || m.shafts[p.Shaft] != other.shafts[got[i].Shaft] {
			t.Fatal("stirred", other, short(got), "not", short(pairs))
		}
	}
}

// checkMates: both calls answer that code, and nothing with it but for OK.
func checkMates(t *testing.T, m match, code int) {
	t.Helper()
	if want := exactMatchCode(m); want != code {
		t.Fatal("the case itself is wrong", m, want, code)
	}
	if code == impl.OK {
		checkMatch(t, m)
		return
	}
	if pairs, got := impl.Matched(m.holes, m.shafts, m.low, m.high); len(pairs) != 0 || got != code {
		t.Error("Matched", m, short(pairs), got, "not", code)
	}
	if holes, shafts, got := impl.Blocked(m.holes, m.shafts, m.low, m.high); len(holes) != 0 || len(shafts) != 0 || got != code {
		t.Error("Blocked", m, short(holes), short(shafts), got, "not", code)
	}
}

func TestMatesBySizes(t *testing.T) {
	const m = impl.MaxAt
	right := []int{0, 1, m - 1, m}
	wrong := []int{m + 1, -1, -m, least, least + 1, greatest - 1, greatest, 1 << 32, 1<<32 + 5, -1 << 32}
	for i, size := range slices.Concat(right, wrong) {
		code := impl.OK
		if i >= len(right) {
			code = impl.ErrBad
		}
		for _, bound := range [][2]int{{0, 0}, {-m, m}, {-m, -m}, {m, m}} {
			checkMates(t, match{[]int{size}, nil, bound[0], bound[1]}, code)
			checkMates(t, match{nil, []int{size}, bound[0], bound[1]}, code)
			checkMates(t, match{[]int{size}, []int{size}, bound[0], bound[1]}, code)
			for at := range 3 {
				list := []int{4, 6, 8}
				list[at] = size
				checkMates(t, match{list, []int{4, 5, 6}, bound[0], bound[1]}, code)
				checkMates(t, match{[]int{4, 5, 6}, list, bound[0], bound[1]}, code)
			}
		}
	}
	checkMates(t, match{[]int{greatest}, []int{least}, 0, 0}, impl.ErrBad)
	checkMates(t, match{[]int{least}, []int{greatest}, -1, 1}, impl.ErrBad) // the difference would wrap to 1
}

func TestMatesByBounds(t *testing.T) {
	const m = impl.MaxAt
	bounds := []int{least, least + 1, -1 << 32, -m - 1, -m, 1 - m, -2, -1, 0, 1, 2, m - 1, m, m + 1, 1 << 32, greatest - 1, greatest}
	for _, low := range bounds {
		for _, high := range bounds {
			code := impl.ErrBad
			if -m <= low && low <= high && high <= m {
				code = impl.OK
			}
			for _, sizes := range [][]int{nil, {0}, {m}, {3, 1, 2, 0, m}} {
				checkMates(t, match{sizes, []int{2, 0, 1, m}, low, high}, code)
				checkMates(t, match{[]int{2, 0, 1, m}, sizes, low, high}, code)
				checkMates(t, match{sizes, sizes, low, high}, code)
			}
		}
	}
}

func TestMatesByHowMany(t *testing.T) {
	counts := map[int]int{
		0: impl.OK, 1: impl.OK, impl.MaxMates - 1: impl.OK, impl.MaxMates: impl.OK, impl.MaxMates + 1: impl.ErrBad, 2 * impl.MaxMates: impl.ErrBad,
		impl.MaxList - 1: impl.ErrBad, impl.MaxList: impl.ErrBad, impl.MaxList + 1: impl.ErrLong, 2 * impl.MaxList: impl.ErrLong,
	}
	for holes, holesCode := range counts {
		for shafts, shaftsCode := range counts {
			code := max(holesCode, shaftsCode) // ErrLong is ahead of ErrBad, and greater
			checkMates(t, match{allOf(5, holes), allOf(4, shafts), 0, 1}, code)
			checkMates(t, match{make([]int, holes), allOf(4, shafts), 0, 1}, code)
			// With something wrong besides, what is not too long is bad.
			other := max(impl.ErrBad, code)
			checkMates(t, match{allOf(5, holes), allOf(4, shafts), 1, 0}, other)
			checkMates(t, match{allOf(5, holes), allOf(4, shafts), least, greatest}, other)
			checkMates(t, match{append(allOf(5, max(0, holes-1)), -1)[:max(1, holes)], allOf(4, shafts), 0, 1}, other)
			checkMates(t, match{allOf(5, holes), append(allOf(4, max(0, shafts-1)), greatest)[:max(1, shafts)], 0, 1}, other)
		}
	}
}

func TestMatchesOfTheMost(t *testing.T) {
	const n = impl.MaxMates
	rising, falling := numbersTo(n), numbersTo(n)
	slices.Reverse(falling)
	for _, sizes := range [][2][]int{{rising, rising}, {rising, falling}, {falling, rising}, {falling, falling}, {allOf(impl.MaxAt, n), allOf(impl.MaxAt, n)}, {allOf(0, n), rising}, {falling, allOf(0, n)}} {
		for _, bound := range [][2]int{{0, 0}, {0, 1}, {1, 1}, {-1, 0}, {-1, -1}, {3, 50}, {-impl.MaxAt, impl.MaxAt}, {impl.MaxAt, impl.MaxAt}} {
			checkMatch(t, match{sizes[0], sizes[1], bound[0], bound[1]})
		}
	}
	pairs, holes, shafts := checkMatch(t, match{falling, falling, 1, 1})
	if len(pairs) != n-1 || pairs[0] != (impl.Pair{Hole: n - 2, Shaft: n - 1}) || !slices.Equal(holes, []int{n - 1}) || len(shafts) != 0 {
		t.Error("Matched of the most", len(pairs), holes, shafts)
	}
}

func TestDrawnWrongMates(t *testing.T) {
	draw := rand.New(rand.NewSource(99))
	numbers := []int{least, -impl.MaxAt - 1, -impl.MaxAt, -2, -1, 0, 1, 2, impl.MaxAt, impl.MaxAt + 1, greatest}
	for range 4000 {
		m := drawnMatch(draw, 8, 9)
		for range 1 + draw.Intn(2) {
			number := numbers[draw.Intn(len(numbers))]
			switch draw.Intn(4) {
			case 0:
				m.low = number
			case 1:
				m.high = number
			case 2:
				m.holes = slices.Insert(m.holes, draw.Intn(len(m.holes)+1), number)
			default:
				m.shafts = slices.Insert(m.shafts, draw.Intn(len(m.shafts)+1), number)
			}
		}
		checkMates(t, m, exactMatchCode(m))
	}
}

func spoilNumbers(list []int) {
	for i := range list[:cap(list)] {
		list[:cap(list)][i] = 77
	}
}

func TestFitAnswersAreNewMemory(t *testing.T) {
	for _, m := range []match{
		{nil, nil, 0, 1}, {[]int{12, 10, 11, 10}, []int{9, 10, 8, 3}, 1, 2}, {[]int{12, 10, 11}, []int{13, 15, 14}, -3, -3}, {[]int{3, 2, 1}, nil, 0, 0},
		{[]int{5, 5, 5}, []int{4, 4}, 1, 1}, {[]int{-1, 5}, []int{4, 4}, 1, 1}, {allOf(5, impl.MaxMates), allOf(4, impl.MaxMates-1), 0, 1}, {allOf(5, impl.MaxMates+1), allOf(4, 3), 0, 1},
	} {
		holesArray, shaftsArray := append(slices.Clone(m.holes), 55, 56, 57), append(slices.Clone(m.shafts), 65, 66, 67)
		holes, shafts := holesArray[:len(m.holes)], shaftsArray[:len(m.shafts)]
		all := func() string {
			pairs, code := impl.Matched(holes, shafts, m.low, m.high)
			blockedHoles, blockedShafts, blockedCode := impl.Blocked(holes, shafts, m.low, m.high)
			shaftsTold := fmt.Sprint(blockedShafts)
			told := fmt.Sprint(pairs, code, blockedHoles, shaftsTold, blockedCode)
			for i := range pairs[:cap(pairs)] {
				pairs[:cap(pairs)][i] = impl.Pair{Hole: 77, Shaft: 77}
			}
			spoilNumbers(blockedHoles)
			if fmt.Sprint(blockedShafts) != shaftsTold {
				t.Error("two lists of one answer share memory", m)
			}
			spoilNumbers(blockedShafts)
			return told
		}
		first := all()
		if again := all(); again != first {
			t.Error("answers share memory", m, first, again)
		}
		if !slices.Equal(holesArray, append(slices.Clone(m.holes), 55, 56, 57)) || !slices.Equal(shaftsArray, append(slices.Clone(m.shafts), 65, 66, 67)) {
			t.Error("an argument was changed", m, holesArray, shaftsArray)
		}
	}
}

// One list may be both arguments.
func TestHolesThatAreTheShafts(t *testing.T) {
	sizes := []int{3, 1, 2, 2, 5}
	checkTold(t, match{sizes, sizes, 0, 0}, []int{1, 1, 2, 2, 3, 3, 0, 0, 4, 4}, nil, nil)
	checkTold(t, match{sizes, sizes, 1, 1}, []int{2, 1, 0, 2}, []int{1, 2, 3, 4}, []int{1})
	if !slices.Equal(sizes, []int{3, 1, 2, 2, 5}) {
		t.Error("an argument was changed", sizes)
	}
}

// fitCalls: calls of every function of the layer, right, at an edge and wrong.
func fitCalls() []func() string {
	var calls []func() string
	tell := func(call func() string) { calls = append(calls, call) }
	for _, s := range [][4]int{{20, 22, 18, 20}, {20, 22, 22, 25}, {20, 22, 19, 21}, {5, 5, 5, 5}, {22, 20, 1, 2}, {0, impl.MaxAt, 0, impl.MaxAt}, {0, impl.MaxAt + 1, 0, 0}, {least, greatest, least, greatest}} {
		tell(func() string { return fmt.Sprint(impl.FitKind(s[0], s[1], s[2], s[3])) })
	}
	lists := [][]int{nil, {12, 10, 11, 10}, {9, 10, 8, 3}, {-1}, {greatest, least}, numbersTo(impl.MaxMates), numbersTo(impl.MaxMates + 1), make([]int, impl.MaxList+1)}
	for _, holes := range lists {
		for _, shafts := range lists {
			for _, bound := range [][2]int{{1, 2}, {-3, 0}, {2, 1}, {least, greatest}, {-impl.MaxAt, impl.MaxAt}} {
				tell(func() string { return fmt.Sprint(impl.Matched(holes, shafts, bound[0], bound[1])) })
				tell(func() string { return fmt.Sprint(impl.Blocked(holes, shafts, bound[0], bound[1])) })
			}
		}
	}
	return calls
}
