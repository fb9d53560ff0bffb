package tests

import (
	"slices"
	"testing"

	"loop.example/g00056/impl"
)

func rule(kind, a, b, num int) impl.Rule { return impl.Rule{Kind: kind, A: a, B: b, Num: num} }

func sketch(points int, rules ...impl.Rule) impl.Sketch {
	return impl.Sketch{Points: points, Rules: rules}
}

// manyRules are right in every sketch and say nothing.
func manyRules(count int) []impl.Rule {
	return slices.Repeat([]impl.Rule{rule(impl.RuPlumb, 0, 0, 0)}, count)
}

var (
	atKinds   = []int{impl.RuAtX, impl.RuAtY}
	farKinds  = []int{impl.RuDX, impl.RuDY, impl.RuLeastX, impl.RuLeastY}
	sameKinds = []int{impl.RuPlumb, impl.RuLevel, impl.RuSame}
)

func TestSketchLimits(t *testing.T) {
	kinds := slices.Concat(atKinds, farKinds, sameKinds)
	if impl.MaxPoints != 24 || impl.MaxRules != 60 || !slices.Equal(kinds, []int{1, 2, 3, 4, 5, 6, 7, 8, 9}) {
		t.Error("limits and kinds", impl.MaxPoints, impl.MaxRules, kinds)
	}
}

// checkNone: no function takes it for a sketch, whatever else is asked.
func checkNone(t *testing.T, s impl.Sketch) {
	t.Helper()
	few := s.Rules[:min(len(s.Rules), 3)]
	if impl.SketchOK(s) {
		t.Error("SketchOK", s.Points, len(s.Rules), few)
	}
	if p, code, core := impl.SketchSolve(s); len(p) != 0 || code != impl.ErrBad || len(core) != 0 {
		t.Error("SketchSolve", s.Points, len(s.Rules), few, p, code, core)
	}
	if free, spare, code := impl.SketchFree(s); free != 0 || len(spare) != 0 || code != impl.ErrBad {
		t.Error("SketchFree", s.Points, len(s.Rules), few, free, spare, code)
	}
	if p, code, core := impl.SketchMove(s, 0, at(0, 0)); len(p) != 0 || code != impl.ErrBad || len(core) != 0 {
		t.Error("SketchMove", s.Points, len(s.Rules), few, p, code, core)
	}
}

func checkOne(t *testing.T, s impl.Sketch) {
	t.Helper()
	if !impl.SketchOK(s) {
		t.Error("SketchOK is false", s)
	}
	if _, code, _ := impl.SketchSolve(s); code != impl.OK && code != impl.ErrCore {
		t.Error("SketchSolve", s, code)
	}
	if _, _, code := impl.SketchFree(s); code != impl.OK && code != impl.ErrCore {
		t.Error("SketchFree", s, code)
	}
}

func TestSketchesByTheirPoints(t *testing.T) {
	for _, count := range []int{1, 2, 23, impl.MaxPoints} {
		checkOne(t, sketch(count))
		checkOne(t, sketch(count, rule(impl.RuDX, count-1, 0, 0), rule(impl.RuSame, 0, count-1, 0)))
		for _, kind := range slices.Concat(atKinds, farKinds, sameKinds) {
			checkOne(t, sketch(count, rule(kind, count-1, 0, 0)))
			for _, none := range []int{count, count + 1, -1, least, greatest, 1 << 32, -1 << 32} {
				checkNone(t, sketch(count, rule(kind, none, 0, 0)))
				checkNone(t, sketch(count, rule(kind, 0, none, 0)))
				checkNone(t, sketch(count, rule(impl.RuSame, 0, 0, 0), rule(kind, none, none, 0)))
			}
		}
	}
	for _, count := range []int{0, -1, impl.MaxPoints + 1, least, least + 1, greatest, 1 << 32, 1<<32 + 1} {
		checkNone(t, sketch(count))
		checkNone(t, sketch(count, rule(impl.RuAtX, 0, 0, 0)))
	}
}

func TestSketchesByTheirNumbers(t *testing.T) {
	const m = impl.MaxAt
	for _, kind := range slices.Concat(atKinds, farKinds) {
		for _, num := range []int{-m, 1 - m, -1, 0, 1, m - 1, m} {
			checkOne(t, sketch(2, rule(kind, 1, 0, num)))
		}
		for _, num := range []int{-m - 1, m + 1, least, least + 1, greatest, 1 << 32, -1 << 32} {
			checkNone(t, sketch(2, rule(kind, 1, 0, num)))
			checkNone(t, sketch(2, rule(impl.RuLevel, 0, 1, 0), rule(kind, 1, 0, num)))
		}
	}
	for _, kind := range atKinds {
		checkNone(t, sketch(2, rule(kind, 0, 1, 0)))
		checkNone(t, sketch(2, rule(kind, 1, 1, 5)))
	}
	for _, kind := range sameKinds {
		for _, num := range []int{-1, 1, m, -m, m + 1, least, greatest} {
			checkNone(t, sketch(2, rule(kind, 0, 1, num)))
		}
	}
	for _, kind := range []int{0, 10, -1, 11, 256 + impl.RuSame, 1<<32 + impl.RuDX, least, greatest} {
		checkNone(t, sketch(2, rule(kind, 0, 0, 0)))
		checkNone(t, sketch(2, rule(kind, 0, 1, 1), rule(impl.RuSame, 0, 1, 0)))
	}
}

func TestSketchesByHowManyRules(t *testing.T) {
	for _, count := range []int{0, 1, impl.MaxRules - 1, impl.MaxRules} {
		checkOne(t, sketch(1, manyRules(count)...))
	}
	// Rules lie within a struct: however many they are, that is bad, not long.
	for _, count := range []int{impl.MaxRules + 1, impl.MaxRules + 2, impl.MaxList, impl.MaxList + 1, 1 << 20} {
		checkNone(t, sketch(1, manyRules(count)...))
		checkNone(t, sketch(1, make([]impl.Rule, count)...))
		checkNone(t, sketch(0, manyRules(count)...))
	}
	last := append(manyRules(impl.MaxRules-1), rule(impl.RuPlumb, 0, 1, 0))
	checkNone(t, sketch(1, last...))
	checkOne(t, sketch(2, last...))
}

func checkSolved(t *testing.T, s impl.Sketch, want []impl.Point) {
	t.Helper()
	if p, code, core := impl.SketchSolve(s); !slices.Equal(p, want) || code != impl.OK || len(core) != 0 {
		t.Error("SketchSolve", s, p, code, core, "not", want)
	}
}

func checkCore(t *testing.T, s impl.Sketch, want ...int) {
	t.Helper()
	if p, code, core := impl.SketchSolve(s); len(p) != 0 || code != impl.ErrCore || !slices.Equal(core, want) {
		t.Error("SketchSolve", s, p, code, core, "not", want)
	}
	if free, spare, code := impl.SketchFree(s); free != 0 || len(spare) != 0 || code != impl.ErrCore {
		t.Error("SketchFree of a core", s, free, spare, code)
	}
}

func TestSketchSolveOfEachKind(t *testing.T) {
	for _, c := range []struct {
		rule impl.Rule
		want []impl.Point
	}{
		{rule(impl.RuAtX, 1, 0, 7), points(0, 0, 7, 0)}, {rule(impl.RuAtY, 1, 0, 7), points(0, 0, 0, 7)}, {rule(impl.RuAtX, 0, 0, 0), points(0, 0, 0, 0)},
		{rule(impl.RuDX, 0, 1, 7), points(0, 0, 7, 0)}, {rule(impl.RuDX, 0, 1, -7), points(7, 0, 0, 0)}, {rule(impl.RuDX, 1, 0, 7), points(7, 0, 0, 0)},
		{rule(impl.RuDY, 0, 1, 7), points(0, 0, 0, 7)}, {rule(impl.RuDY, 0, 1, -7), points(0, 7, 0, 0)}, {rule(impl.RuDY, 1, 0, -7), points(0, 0, 0, 7)},
		{rule(impl.RuLeastX, 0, 1, 7), points(0, 0, 7, 0)}, {rule(impl.RuLeastX, 0, 1, -7), points(0, 0, 0, 0)}, {rule(impl.RuLeastX, 1, 0, 7), points(7, 0, 0, 0)},
		{rule(impl.RuLeastY, 0, 1, 7), points(0, 0, 0, 7)}, {rule(impl.RuLeastY, 0, 1, -7), points(0, 0, 0, 0)}, {rule(impl.RuLeastY, 1, 0, 7), points(0, 7, 0, 0)},
		{rule(impl.RuPlumb, 0, 1, 0), points(0, 0, 0, 0)}, {rule(impl.RuLevel, 0, 1, 0), points(0, 0, 0, 0)}, {rule(impl.RuSame, 0, 1, 0), points(0, 0, 0, 0)},
	} {
		checkSolved(t, sketch(2, c.rule), c.want)
	}
	// What ties two points, with one of them put somewhere.
	for _, c := range []struct {
		kind int
		want impl.Point
	}{{impl.RuPlumb, at(5, 0)}, {impl.RuLevel, at(0, 8)}, {impl.RuSame, at(5, 8)}} {
		put := []impl.Rule{rule(impl.RuAtX, 0, 0, 5), rule(impl.RuAtY, 0, 0, 8)}
		checkSolved(t, sketch(2, append(put, rule(c.kind, 0, 1, 0))...), []impl.Point{at(5, 8), c.want})
		checkSolved(t, sketch(2, append([]impl.Rule{rule(c.kind, 1, 0, 0)}, put...)...), []impl.Point{at(5, 8), c.want})
	}
}

func TestSketchSolveOfSeveralRules(t *testing.T) {
	checkSolved(t, sketch(1), points(0, 0))
	checkSolved(t, impl.Sketch{Points: 3, Rules: []impl.Rule{}}, points(0, 0, 0, 0, 0, 0))
	checkSolved(t, sketch(impl.MaxPoints), make([]impl.Point, impl.MaxPoints))
	// A point is held up by the farthest of several.
	checkSolved(t, sketch(4, rule(impl.RuAtX, 0, 0, 3), rule(impl.RuAtX, 1, 0, 9), rule(impl.RuLeastX, 0, 3, 5), rule(impl.RuLeastX, 1, 3, 2), rule(impl.RuLeastX, 2, 3, 10)), points(3, 0, 9, 0, 0, 0, 11, 0))
	// Points that are told late hold up those ahead of them.
	checkSolved(t, sketch(3, rule(impl.RuDX, 0, 1, 2), rule(impl.RuDX, 1, 2, 2), rule(impl.RuAtX, 2, 0, 20)), points(16, 0, 18, 0, 20, 0))
	// Rings that come to nothing, and below.
	checkSolved(t, sketch(3, rule(impl.RuLeastX, 0, 1, 4), rule(impl.RuLeastX, 1, 2, 3), rule(impl.RuLeastX, 2, 0, -7)), points(0, 0, 4, 0, 7, 0))
	checkSolved(t, sketch(3, rule(impl.RuLeastX, 0, 1, 4), rule(impl.RuLeastX, 1, 2, 3), rule(impl.RuLeastX, 2, 0, -9)), points(0, 0, 4, 0, 7, 0))
	checkSolved(t, sketch(2, rule(impl.RuLeastY, 0, 1, 4), rule(impl.RuLeastY, 1, 0, -4), rule(impl.RuAtY, 1, 0, 6)), points(0, 2, 0, 6))
	// A box: level and plumb sides, its corners named once over.
	checkSolved(t, sketch(5, rule(impl.RuLevel, 0, 1, 0), rule(impl.RuPlumb, 1, 2, 0), rule(impl.RuLevel, 2, 3, 0), rule(impl.RuPlumb, 3, 0, 0), rule(impl.RuDX, 0, 1, 40), rule(impl.RuDY, 0, 3, 30), rule(impl.RuSame, 4, 2, 0), rule(impl.RuAtY, 4, 0, 37)), points(0, 7, 40, 7, 40, 37, 0, 37, 40, 37))
}

// chain goes from point to point, its rules told from the first or the last on.
func chain(kind, count, num int, back bool) impl.Sketch {
	s := impl.Sketch{Points: count}
	for n := range count - 1 {
		s.Rules = append(s.Rules, rule(kind, n, n+1, num))
	}
	if back {
		slices.Reverse(s.Rules)
	}
	return s
}

func TestSketchSolveOfChains(t *testing.T) {
	const m = impl.MaxAt
	links := impl.MaxPoints - 1
	for _, back := range []bool{false, true} {
		for _, num := range []int{0, 1, 17, m / links} {
			for _, kind := range farKinds {
				want := make([]impl.Point, impl.MaxPoints)
				for n := range want {
					want[n] = at(n*num, 0)
					if kind == impl.RuDY || kind == impl.RuLeastY {
						want[n] = at(0, n*num)
					}
				}
				checkSolved(t, chain(kind, impl.MaxPoints, num, back), want)
				if kind == impl.RuDX || kind == impl.RuDY {
					checkSolved(t, chain(kind, impl.MaxPoints, -num, back), backwards(want))
				}
			}
		}
		all := make([]int, links)
		for n := range all {
			all[n] = n
		}
		for _, kind := range farKinds {
			checkCore(t, chain(kind, impl.MaxPoints, m/links+1, back), all...)
			ring := chain(kind, impl.MaxPoints, 1, back)
			ring.Rules = append(ring.Rules, rule(kind, links, 0, 1-links))
			checkCore(t, ring, append(slices.Clone(all), links)...) // it lifts itself, by one
			ring.Rules[links].Num = -links
			if p, code, _ := impl.SketchSolve(ring); code != impl.OK || max(p[links].X, p[links].Y) != links {
				t.Error("a ring that comes to nothing", ring, p, code)
			}
		}
	}
}

func TestSketchSolveAtTheEdges(t *testing.T) {
	const m = impl.MaxAt
	for _, num := range []int{0, 1, m - 1, m} {
		checkSolved(t, sketch(1, rule(impl.RuAtX, 0, 0, num)), points(num, 0))
		checkSolved(t, sketch(1, rule(impl.RuAtY, 0, 0, num)), points(0, num))
	}
	checkSolved(t, sketch(2, rule(impl.RuDX, 0, 1, m), rule(impl.RuDY, 0, 1, -m)), points(0, m, m, 0))
	checkSolved(t, sketch(2, rule(impl.RuLeastX, 0, 1, m), rule(impl.RuLeastY, 0, 1, -m)), points(0, 0, m, 0))
	checkSolved(t, sketch(3, rule(impl.RuLeastX, 0, 1, m-1), rule(impl.RuLeastX, 1, 2, 1)), points(0, 0, m-1, 0, m, 0))
	checkCore(t, sketch(3, rule(impl.RuLeastX, 0, 1, m), rule(impl.RuLeastX, 1, 2, 1)), 0, 1)
	checkSolved(t, sketch(2, rule(impl.RuAtY, 0, 0, m-4), rule(impl.RuLeastY, 0, 1, 4)), points(0, m-4, 0, m))
	checkCore(t, sketch(2, rule(impl.RuAtY, 0, 0, m-4), rule(impl.RuLeastY, 0, 1, 5)), 0, 1)
	checkSolved(t, sketch(2, rule(impl.RuAtX, 0, 0, 4), rule(impl.RuDX, 0, 1, -4)), points(4, 0, 0, 0))
	checkCore(t, sketch(2, rule(impl.RuAtX, 0, 0, 4), rule(impl.RuDX, 0, 1, -5)), 0, 1)
	checkSolved(t, sketch(2, rule(impl.RuAtX, 0, 0, 4), rule(impl.RuLeastX, 0, 1, -5)), points(4, 0, 0, 0))
	checkSolved(t, sketch(2, rule(impl.RuAtX, 0, 0, 4), rule(impl.RuLeastX, 1, 0, 4)), points(4, 0, 0, 0))
	checkCore(t, sketch(2, rule(impl.RuAtX, 0, 0, 4), rule(impl.RuLeastX, 1, 0, 5)), 0, 1)
	for _, num := range []int{-1, -2, -m} {
		checkCore(t, sketch(1, rule(impl.RuAtX, 0, 0, num)), 0)
		checkCore(t, sketch(1, rule(impl.RuAtY, 0, 0, num)), 0)
	}
	// Two chains of the greatest steps there are, one up and one down.
	far := chain(impl.RuLeastX, impl.MaxPoints, m, false)
	checkCore(t, far, 0, 1)
	checkCore(t, chain(impl.RuDX, impl.MaxPoints, -m, true), 0, 1)
	checkSolved(t, chain(impl.RuLeastX, impl.MaxPoints, -m, false), make([]impl.Point, impl.MaxPoints))
}

func TestSketchSolveOfOnePointTwice(t *testing.T) {
	const m = impl.MaxAt
	for _, kind := range []int{impl.RuDX, impl.RuDY} {
		checkSolved(t, sketch(2, rule(kind, 1, 1, 0)), points(0, 0, 0, 0))
		for _, num := range []int{1, -1, m, -m} {
			checkCore(t, sketch(2, rule(kind, 1, 1, num)), 0)
		}
	}
	for _, kind := range []int{impl.RuLeastX, impl.RuLeastY} {
		for _, num := range []int{0, -1, -m} {
			checkSolved(t, sketch(2, rule(kind, 1, 1, num)), points(0, 0, 0, 0))
		}
		for _, num := range []int{1, m} {
			checkCore(t, sketch(2, rule(kind, 1, 1, num)), 0)
		}
	}
	for _, kind := range sameKinds {
		checkSolved(t, sketch(2, rule(kind, 1, 1, 0), rule(impl.RuAtX, 1, 0, 3)), points(0, 0, 3, 0))
	}
}

func TestSketchCores(t *testing.T) {
	atX, atY := rule(impl.RuAtX, 0, 0, 3), rule(impl.RuAtY, 0, 0, 3)
	ring := []impl.Rule{rule(impl.RuDX, 0, 1, 5), rule(impl.RuDX, 1, 2, 5), rule(impl.RuDX, 2, 0, 5)}
	none := rule(impl.RuAtX, 0, 0, -1)
	still := []impl.Rule{rule(impl.RuLevel, 0, 1, 0), rule(impl.RuLeastY, 2, 1, -4), rule(impl.RuSame, 2, 2, 0)}
	for _, c := range []struct {
		rules []impl.Rule
		want  []int
	}{
		{[]impl.Rule{atX, rule(impl.RuAtX, 0, 0, 4)}, []int{0, 1}}, {[]impl.Rule{atY, rule(impl.RuAtY, 0, 0, 4)}, []int{0, 1}},
		{[]impl.Rule{atX, rule(impl.RuAtX, 0, 0, 4), rule(impl.RuAtX, 0, 0, 5)}, []int{0, 1}},                      // of three each two are one
		{[]impl.Rule{atX, atX, rule(impl.RuAtX, 0, 0, 5), rule(impl.RuAtX, 0, 0, 5)}, []int{0, 2}},                 // the first of those that say the same
		{[]impl.Rule{atX, rule(impl.RuAtX, 0, 0, 4), atY, rule(impl.RuAtY, 0, 0, 4)}, []int{0, 1}},                 // by both: one of X ahead of one of Y
		{[]impl.Rule{atY, rule(impl.RuAtY, 0, 0, 4), atX, rule(impl.RuAtX, 0, 0, 4)}, []int{0, 1}},                 // and the other way round
		{[]impl.Rule{atX, atY, rule(impl.RuAtY, 0, 0, 4), rule(impl.RuAtX, 0, 0, 4)}, []int{1, 2}},                 // the one that ends first
		{[]impl.Rule{atX, atY, rule(impl.RuAtX, 1, 0, 4), rule(impl.RuSame, 0, 1, 0)}, []int{0, 2, 3}},             // RuSame by X
		{[]impl.Rule{atX, atY, rule(impl.RuAtY, 1, 0, 4), rule(impl.RuSame, 0, 1, 0)}, []int{1, 2, 3}},             // by Y
		{[]impl.Rule{rule(impl.RuSame, 0, 1, 0), rule(impl.RuDX, 0, 1, 1), rule(impl.RuDY, 0, 1, 1)}, []int{0, 1}}, // by both
		{ring, []int{0, 1, 2}}, {slices.Concat(ring, []impl.Rule{none}), []int{0, 1, 2}}, {slices.Concat([]impl.Rule{none}, ring), []int{0}},
		{slices.Concat(ring[:2], []impl.Rule{none}, ring[2:]), []int{2}}, // the one that ends first, though it is in the midst of the other
		{slices.Concat(still, ring[:1], still, ring[1:], still), []int{3, 7, 8}}, {slices.Concat(still, []impl.Rule{none}, still), []int{3}},
		{[]impl.Rule{rule(impl.RuLeastX, 0, 1, 1), rule(impl.RuLeastX, 1, 0, 0)}, []int{0, 1}}, {[]impl.Rule{rule(impl.RuLeastX, 0, 1, 1), rule(impl.RuPlumb, 1, 0, 0)}, []int{0, 1}},
		{[]impl.Rule{rule(impl.RuDX, 0, 1, 2), rule(impl.RuDX, 1, 2, 2), rule(impl.RuDX, 0, 2, 5)}, []int{0, 1, 2}}, {[]impl.Rule{rule(impl.RuDY, 0, 1, 2), rule(impl.RuLevel, 1, 0, 0)}, []int{0, 1}},
	} {
		checkCore(t, sketch(3, c.rules...), c.want...)
	}
	full := slices.Concat(manyRules(20), []impl.Rule{rule(impl.RuLeastX, 0, 1, 1)}, manyRules(38), []impl.Rule{rule(impl.RuLeastX, 1, 0, 0)})
	checkCore(t, sketch(impl.MaxPoints, full...), 20, 59) // a ring that would lift itself a long way, and all the rules there may be
}
