package tests

import (
	"fmt"
	"slices"
	"testing"

	"loop.example/g00056/impl"
)

// A match is what Matched and Blocked are asked about.
type match struct {
	holes, shafts []int
	low, high     int
}

func (m match) fit(hole, shaft int) bool {
	clearance := m.holes[hole] - m.shafts[shaft]
	return m.low <= clearance && clearance <= m.high
}

func (m match) String() string {
	return short(fmt.Sprint("holes ", m.holes, " shafts ", m.shafts, " from ", m.low, " to ", m.high))
}

// exactMatchCode goes through the document's sentence on what is right.
func exactMatchCode(m match) int {
	if len(m.holes) > impl.MaxList || len(m.shafts) > impl.MaxList {
		return impl.ErrLong
	}
	if len(m.holes) > impl.MaxMates || len(m.shafts) > impl.MaxMates {
		return impl.ErrBad
	}
	for _, size := range slices.Concat(m.holes, m.shafts) {
		if size < 0 || size > impl.MaxAt {
			return impl.ErrBad
		}
	}
	for _, bound := range []int{m.low, m.high} {
		if bound < -impl.MaxAt || bound > impl.MaxAt {
			return impl.ErrBad
		}
	}
	if m.low > m.high {
		return impl.ErrBad
	}
	return impl.OK
}

// leastLeft is the number of the first of the least sizes that are left, or -1.
func leastLeft(sizes []int, left func(int) bool) int {
	first := -1
	for i, size := range sizes {
		if left(i) && (first < 0 || size < sizes[first]) {
			first = i
		}
	}
	return first
}

// exactPairs takes holes and shafts one by one, each the least that is left.
func exactPairs(m match) []impl.Pair {
	var pairs []impl.Pair
	seen, taken := map[int]bool{}, map[int]bool{}
	for range m.holes {
		hole := leastLeft(m.holes, func(i int) bool { return !seen[i] })
		seen[hole] = true
		if shaft := leastLeft(m.shafts, func(i int) bool { return !taken[i] && m.fit(hole, i) }); shaft >= 0 {
			taken[shaft] = true
			pairs = append(pairs, impl.Pair{Hole: hole, Shaft: shaft})
		}
	}
	return pairs
}

// mostPairs turns pairs over along ways from holes that are alone, until there
// is no such way: as many pairs as can be, whatever fits to what.
func mostPairs(m match) int {
	holeOf := slices.Repeat([]int{-1}, len(m.shafts))
	var tried []bool
	var seat func(int) bool
	seat = func(hole int) bool {
		for shaft := range m.shafts {
			if tried[shaft] || !m.fit(hole, shaft) {
				continue
			}
			tried[shaft] = true
			if holeOf[shaft] < 0 || seat(holeOf[shaft]) {
				holeOf[shaft] = hole
				return true
			}
		}
		return false
	}
	count := 0
	for hole := range m.holes {
		tried = make([]bool, len(m.shafts))
		if seat(hole) {
			count++
		}
	}
	return count
}

// mostByTrying tries each shaft, and none, for each hole.
func mostByTrying(m match, hole int, taken uint) int {
	if hole == len(m.holes) {
		return 0
	}
	most := mostByTrying(m, hole+1, taken)
	for shaft := range m.shafts {
		if taken>>shaft&1 == 0 && m.fit(hole, shaft) {
			most = max(most, 1+mostByTrying(m, hole+1, taken|1<<shaft))
		}
	}
	return most
}

// exactReason goes by the document's words, again and again through all pairs.
func exactReason(m match, pairs []impl.Pair) ([]int, []int) {
	inReason := map[int]bool{}
	for hole := range m.holes {
		inReason[hole] = !slices.ContainsFunc(pairs, func(p impl.Pair) bool { return p.Hole == hole })
	}
	fits := func(shaft int) bool {
		for hole, in := range inReason {
			if in && m.fit(hole, shaft) {
				return true
			}
		}
		return false
	}
	for grows := true; grows; {
		grows = false
		for _, p := range pairs {
			if !inReason[p.Hole] && fits(p.Shaft) {
				inReason[p.Hole], grows = true, true
			}
		}
	}
	var holes, shafts []int
	for hole := range m.holes {
		if inReason[hole] {
			holes = append(holes, hole)
		}
	}
	for shaft := range m.shafts {
		if fits(shaft) {
			shafts = append(shafts, shaft)
		}
	}
	return holes, shafts
}

func compareHoles(m match) func(p, q impl.Pair) int {
	return func(p, q impl.Pair) int {
		if m.holes[p.Hole] != m.holes[q.Hole] {
			return m.holes[p.Hole] - m.holes[q.Hole]
		}
		return p.Hole - q.Hole
	}
}

// checkPairs: the pairs fit, none has what another has, and they come by size.
func checkPairs(t *testing.T, m match, pairs []impl.Pair) {
	t.Helper()
	holes, shafts := map[int]bool{}, map[int]bool{}
	for _, p := range pairs {
		if p.Hole < 0 || p.Hole >= len(m.holes) || p.Shaft < 0 || p.Shaft >= len(m.shafts) {
			t.Fatal("no such pair", m, p)
		}
		if !m.fit(p.Hole, p.Shaft) {
			t.Fatal("a pair that does not fit", m, p)
		}
		if holes[p.Hole] || shafts[p.Shaft] {
			t.Fatal("a hole or a shaft in two pairs", m, pairs)
		}
		holes[p.Hole], shafts[p.Shaft] = true, true
	}
	if !slices.IsSortedFunc(pairs, compareHoles(m)) {
		t.Fatal("another order", m, pairs)
	}
}

// checkReason: whatever pairs there are, the told holes find no other shafts
// than those that are told, and these are too few by as many as stay alone.
func checkReason(t *testing.T, m match, pairs []impl.Pair, holes, shafts []int) {
	t.Helper()
	for hole := range m.holes {
		alone := !slices.ContainsFunc(pairs, func(p impl.Pair) bool { return p.Hole == hole })
		if alone && !slices.Contains(holes, hole) {
			t.Fatal("a hole that is alone is not told", m, hole, holes)
		}
	}
	for _, hole := range holes {
		for shaft := range m.shafts {
			if m.fit(hole, shaft) && !slices.Contains(shafts, shaft) {
				t.Fatal("a hole fits to a shaft that is not told", m, hole, shaft)
			}
		}
	}
	if len(holes)-len(shafts) != len(m.holes)-len(pairs) {
		t.Fatal("another count of shafts", m, holes, shafts, pairs)
	}
	for _, numbers := range [][]int{holes, shafts} {
		if !slices.IsSorted(numbers) || len(slices.Compact(slices.Clone(numbers))) != len(numbers) {
			t.Fatal("numbers that do not rise", m, numbers)
		}
	}
}

func checkMatch(t *testing.T, m match) ([]impl.Pair, []int, []int) {
	t.Helper()
	pairs, code := impl.Matched(m.holes, m.shafts, m.low, m.high)
	if want := exactPairs(m); code != impl.OK || !slices.Equal(pairs, want) {
		t.Fatal("Matched", m, short(pairs), code, "not", short(want))
	}
	checkPairs(t, m, pairs)
	if most := mostPairs(m); len(pairs) != most {
		t.Fatal("Matched", m, short(pairs), "but", most, "pairs can be")
	}
	holes, shafts, code := impl.Blocked(m.holes, m.shafts, m.low, m.high)
	wantHoles, wantShafts := exactReason(m, pairs)
	if code != impl.OK || !slices.Equal(holes, wantHoles) || !slices.Equal(shafts, wantShafts) {
		t.Fatal("Blocked", m, holes, shafts, code, "not", wantHoles, wantShafts)
	}
	checkReason(t, m, pairs, holes, shafts)
	return pairs, holes, shafts
}

// checkTold: pairs are a hole and a shaft each, one pair behind the other.
func checkTold(t *testing.T, m match, pairs, holes, shafts []int) {
	t.Helper()
	gotPairs, gotHoles, gotShafts := checkMatch(t, m)
	var flat []int
	for _, p := range gotPairs {
		flat = append(flat, p.Hole, p.Shaft)
	}
	if !slices.Equal(flat, pairs) {
		t.Error("Matched", m, flat, "not", pairs)
	}
	if !slices.Equal(gotHoles, holes) || !slices.Equal(gotShafts, shafts) {
		t.Error("Blocked", m, gotHoles, gotShafts, "not", holes, shafts)
	}
}

func TestMatchedTold(t *testing.T) {
	for _, c := range []struct {
		match
		pairs, blockedHoles, blockedShafts []int
	}{
		// All holes find a shaft.
		{match{[]int{10, 20}, []int{9, 19}, 1, 1}, []int{0, 0, 1, 1}, nil, nil},
		{match{[]int{20, 10}, []int{9, 19}, 1, 1}, []int{1, 0, 0, 1}, nil, nil},
		{match{[]int{10, 20, 30}, []int{29, 19, 9}, 0, 2}, []int{0, 2, 1, 1, 2, 0}, nil, nil},
		// Shafts stay alone: that is no reason.
		{match{[]int{10}, []int{3, 9, 50}, 0, 2}, []int{0, 1}, nil, nil},
		{match{[]int{10}, []int{10, 9, 8}, 0, 2}, []int{0, 2}, nil, nil},
		// Holes stay alone: with nothing that fits, and with a shaft that another has.
		{match{[]int{10, 30}, []int{9}, 0, 2}, []int{0, 0}, []int{1}, nil},
		{match{[]int{10, 11}, []int{9}, 0, 2}, []int{0, 0}, []int{0, 1}, []int{0}},
		{match{[]int{11, 10}, []int{9}, 0, 2}, []int{1, 0}, []int{0, 1}, []int{0}},
		{match{[]int{30, 10, 40}, []int{9, 70}, 0, 2}, []int{1, 0}, []int{0, 2}, nil},
		// A pair that has nothing to do with it is no reason.
		{match{[]int{50, 10, 11, 90}, []int{49, 9, 88, 1}, 0, 2}, []int{1, 1, 0, 0, 3, 2}, []int{1, 2}, []int{1}},
		// Nothing fits at all.
		{match{[]int{1, 2, 3}, []int{7, 8}, 0, 5}, nil, []int{0, 1, 2}, nil},
		// No hole, no shaft, neither.
		{match{nil, []int{1, 2}, 0, 9}, nil, nil, nil},
		{match{[]int{1, 2}, nil, 0, 9}, nil, []int{0, 1}, nil},
		{match{[]int{2, 1}, []int{}, 0, 9}, nil, []int{0, 1}, nil},
		{match{nil, nil, 0, 9}, nil, nil, nil},
		{match{[]int{}, []int{}, 0, 0}, nil, nil, nil},
	} {
		checkTold(t, c.match, c.pairs, c.blockedHoles, c.blockedShafts)
	}
}

func TestAlikeHolesAndShafts(t *testing.T) {
	for _, c := range []struct {
		match
		pairs, blockedHoles, blockedShafts []int
	}{
		{match{[]int{5, 5, 5}, []int{4, 4, 4}, 1, 1}, []int{0, 0, 1, 1, 2, 2}, nil, nil},
		{match{[]int{5, 5, 5}, []int{4, 4}, 1, 1}, []int{0, 0, 1, 1}, []int{0, 1, 2}, []int{0, 1}},
		{match{[]int{5, 5}, []int{4, 4, 4}, 1, 1}, []int{0, 0, 1, 1}, nil, nil},
		{match{[]int{6, 5, 6, 5}, []int{4, 3, 4, 3}, 1, 2}, []int{1, 1, 3, 3, 0, 0, 2, 2}, nil, nil},
		{match{[]int{6, 5, 6, 5, 6}, []int{4, 3, 4, 3}, 1, 3}, []int{1, 1, 3, 3, 0, 0, 2, 2}, []int{0, 1, 2, 3, 4}, []int{0, 1, 2, 3}},
		{match{[]int{7, 5, 7, 5, 7}, []int{6, 4, 6, 4}, 1, 2}, []int{1, 1, 3, 3, 0, 0, 2, 2}, []int{0, 2, 4}, []int{0, 2}},
		{match{[]int{9, 9, 2}, []int{9, 1, 9, 9}, 0, 1}, []int{2, 1, 0, 0, 1, 2}, nil, nil},
		{match{[]int{0, 0}, []int{0, 0}, 0, 0}, []int{0, 0, 1, 1}, nil, nil},
	} {
		checkTold(t, c.match, c.pairs, c.blockedHoles, c.blockedShafts)
	}
	for _, count := range []int{12, 13, 40, impl.MaxMates} { // beyond what a sort by inserting would have in order
		checkTold(t, match{allOf(7, count), allOf(5, count), 2, 2}, doubled(count), nil, nil)
	}
}

func TestMatchedOfListsThatFall(t *testing.T) {
	checkTold(t, match{[]int{40, 30, 20, 10}, []int{39, 29, 19, 9}, 1, 1}, []int{3, 3, 2, 2, 1, 1, 0, 0}, nil, nil)
	checkTold(t, match{[]int{13, 12, 11, 10}, []int{12, 11, 10}, 0, 1}, []int{3, 2, 2, 1, 1, 0}, []int{0, 1, 2, 3}, []int{0, 1, 2})
	checkTold(t, match{[]int{12, 11, 11, 10}, []int{11, 10, 9}, 0, 1}, []int{3, 2, 1, 1, 2, 0}, []int{0, 1, 2}, []int{0, 1})
}

// A hole of size 10 is held against shafts at each clearance about the bounds.
func TestClearancesAboutTheirBounds(t *testing.T) {
	for _, c := range [][2]int{{0, 0}, {1, 1}, {1, 3}, {0, 2}, {-1, 1}, {-2, 0}, {-1, -1}, {-5, -5}, {-5, -3}, {-9, 8}} {
		for clearance := -11; clearance <= 10; clearance++ {
			m := match{[]int{10}, []int{10 - clearance}, c[0], c[1]}
			if clearance >= c[0] && clearance <= c[1] {
				checkTold(t, m, []int{0, 0}, nil, nil)
			} else {
				checkTold(t, m, nil, []int{0}, nil)
			}
		}
	}
	for _, c := range []struct {
		match
		pairs, blockedHoles, blockedShafts []int
	}{
		{match{[]int{4}, []int{9}, -5, -5}, []int{0, 0}, nil, nil},
		{match{[]int{4}, []int{10}, -5, -5}, nil, []int{0}, nil},
		{match{[]int{4}, []int{8}, -5, -5}, nil, []int{0}, nil},
		{match{[]int{12, 10, 11}, []int{13, 15, 14}, -3, -3}, []int{1, 0, 2, 2, 0, 1}, nil, nil},
		{match{[]int{10, 11, 12}, []int{12, 13}, -2, -1}, []int{0, 0, 1, 1}, []int{0, 1, 2}, []int{0, 1}},
		{match{[]int{10, 11, 13}, []int{12, 13}, -2, -1}, []int{0, 0, 1, 1}, []int{2}, nil},
		{match{[]int{10, 11, 12}, []int{9, 12, 11}, -1, 1}, []int{0, 0, 1, 2, 2, 1}, nil, nil},
		{match{[]int{0, 0}, []int{impl.MaxAt}, -impl.MaxAt, -impl.MaxAt}, []int{0, 0}, []int{0, 1}, []int{0}},
		{match{[]int{impl.MaxAt}, []int{0, 0}, impl.MaxAt, impl.MaxAt}, []int{0, 0}, nil, nil},
		{match{[]int{impl.MaxAt}, []int{0}, -impl.MaxAt, impl.MaxAt - 1}, nil, []int{0}, nil},
		{match{[]int{0}, []int{impl.MaxAt}, 1 - impl.MaxAt, impl.MaxAt}, nil, []int{0}, nil},
		{match{[]int{impl.MaxAt, 0}, []int{0, impl.MaxAt}, -impl.MaxAt, impl.MaxAt}, []int{1, 0, 0, 1}, nil, nil},
	} {
		checkTold(t, c.match, c.pairs, c.blockedHoles, c.blockedShafts)
	}
}

// Each of the holes has the shaft that the next one wants, the last one none.
func TestReasonsThatGrow(t *testing.T) {
	for _, count := range []int{1, 2, 3, 7, 50, impl.MaxMates - 1} {
		m := match{low: 0, high: 10}
		for i := range count {
			m.holes = append(m.holes, 10*i)
			m.shafts = append(m.shafts, 10*i)
		}
		checkTold(t, m, doubled(count), nil, nil)
		m.holes = append(m.holes, 10*count)
		checkTold(t, m, doubled(count), numbersTo(count+1), numbersTo(count))
		m.holes[count] += impl.MaxAt / 2
		checkTold(t, m, doubled(count), []int{count}, nil)
	}
	// 12 fits to 10 alone, which 11 has; 11 fits to 9, which 10 has; 10 fits to 8.
	checkTold(t, match{[]int{12, 10, 11, 10}, []int{9, 10, 8, 3}, 1, 2}, []int{1, 2, 3, 0, 2, 1}, []int{0, 1, 2, 3}, []int{0, 1, 2})
	// It grows from two sides that have nothing to do with one another.
	checkTold(t, match{[]int{50, 51, 10, 30, 11}, []int{9, 29, 49}, 1, 2}, []int{2, 0, 3, 1, 0, 2}, []int{0, 1, 2, 4}, []int{0, 2})
	// The last pair is beyond its reach: 10 does not fit to the shaft of 13.
	checkTold(t, match{[]int{13, 10, 9, 9}, []int{12, 8, 7}, 1, 2}, []int{2, 2, 3, 1, 0, 0}, []int{1, 2, 3}, []int{1, 2})
}

func numbersTo(count int) []int {
	numbers := make([]int, count)
	for i := range numbers {
		numbers[i] = i
	}
	return numbers
}

// doubled: the pairs of each hole with the shaft of its number.
func doubled(count int) []int {
	var pairs []int
	for i := range count {
		pairs = append(pairs, i, i)
	}
	return pairs
}

// eachList: all lists of at most that many of the sizes.
func eachList(sizes []int, most int, do func([]int)) {
	var grow func([]int)
	grow = func(list []int) {
		do(list)
		if len(list) == most {
			return
		}
		for _, size := range sizes {
			grow(append(slices.Clone(list), size))
		}
	}
	grow(nil)
}

// mostByReasons: whichever holes are asked, as many of them stay alone as the
// shafts that fit to them are too few; and no more than the most of these.
func mostByReasons(m match) int {
	alone := 0
	for some := range uint(1) << len(m.holes) {
		missing := 0
		for hole := range m.holes {
			missing += int(some >> hole & 1)
		}
		for shaft := range m.shafts {
			for hole := range m.holes {
				if some>>hole&1 == 1 && m.fit(hole, shaft) {
					missing--
					break
				}
			}
		}
		alone = max(alone, missing)
	}
	return len(m.holes) - alone
}

func TestAllNearMatches(t *testing.T) {
	for _, c := range []struct {
		sizes         []int
		holes, shafts int
		bounds        [][2]int
	}{
		{[]int{0, 1, 2}, 4, 3, [][2]int{{0, 0}, {0, 1}, {-1, 0}, {1, 2}, {-2, -1}, {-1, 1}, {-2, 2}}},
		{[]int{0, 1, 2, 3}, 3, 3, [][2]int{{0, 0}, {0, 1}, {1, 2}, {-1, -1}, {-2, 0}, {-3, -2}, {-1, 2}, {3, 3}, {4, 9}, {-9, -4}}},
		{[]int{0, 2, 3, 5, 6}, 3, 2, [][2]int{{0, 1}, {1, 3}, {2, 4}, {-1, 2}, {-3, -1}}},
	} {
		eachList(c.sizes, c.holes, func(holes []int) {
			eachList(c.sizes, c.shafts, func(shafts []int) {
				for _, bound := range c.bounds {
					m := match{holes, shafts, bound[0], bound[1]}
					pairs, _, _ := checkMatch(t, m)
					if most := mostByTrying(m, 0, 0); len(pairs) != most || mostByReasons(m) != most {
						t.Fatal("Matched", m, pairs, "but", most, mostByReasons(m), "pairs can be")
					}
				}
			})
		})
	}
}
