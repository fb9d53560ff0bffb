package tests

import (
	"fmt"
	"math/bits"
	"math/rand"
	"slices"
	"testing"

	"loop.example/g00056/impl"
)

// rowsOf tells what a rule ties as rows of equations, a bit a coordinate (X
// and Y of each point by turns); a point that is put somewhere stands alone.
func rowsOf(r impl.Rule) []uint64 {
	x := func(point int) uint64 { return 1 << (2 * point) }
	y := func(point int) uint64 { return 2 << (2 * point) }
	switch r.Kind {
	case impl.RuAtX:
		return []uint64{x(r.A)}
	case impl.RuAtY:
		return []uint64{y(r.A)}
	case impl.RuDX, impl.RuPlumb:
		return []uint64{x(r.A) ^ x(r.B)}
	case impl.RuDY, impl.RuLevel:
		return []uint64{y(r.A) ^ y(r.B)}
	case impl.RuSame:
		return []uint64{x(r.A) ^ x(r.B), y(r.A) ^ y(r.B)}
	}
	return nil
}

// exactFree: what is free is what so many equations leave of the coordinates;
// a rule is spare if its equations follow from those ahead of it.
func exactFree(s impl.Sketch) (int, []int) {
	var basis [64]uint64
	free := 2 * s.Points
	var spare []int
	for n, r := range s.Rules {
		before := free
		for _, row := range rowsOf(r) {
			for row != 0 && basis[bits.Len64(row)-1] != 0 {
				row ^= basis[bits.Len64(row)-1]
			}
			if row != 0 {
				basis[bits.Len64(row)-1] = row
				free--
			}
		}
		if free == before && len(rowsOf(r)) > 0 {
			spare = append(spare, n)
		}
	}
	return free, spare
}

// checkFree is for a sketch whose rules can be kept.
func checkFree(t *testing.T, s impl.Sketch) {
	t.Helper()
	free, spare, code := impl.SketchFree(s)
	if wantFree, wantSpare := exactFree(s); free != wantFree || !slices.Equal(spare, wantSpare) || code != impl.OK {
		t.Fatal("SketchFree", s, free, spare, code, "not", wantFree, wantSpare)
	}
}

func TestSketchFreeTold(t *testing.T) {
	put := []impl.Rule{rule(impl.RuAtX, 0, 0, 5), rule(impl.RuAtX, 1, 0, 5), rule(impl.RuAtY, 0, 0, 8), rule(impl.RuAtY, 1, 0, 8)}
	same := rule(impl.RuSame, 0, 1, 0)
	for _, c := range []struct {
		points int
		rules  []impl.Rule
		free   int
		spare  []int
	}{
		{1, nil, 2, nil}, {3, nil, 6, nil}, {impl.MaxPoints, nil, 48, nil}, {3, []impl.Rule{}, 6, nil},
		{3, []impl.Rule{rule(impl.RuAtX, 2, 0, 4)}, 5, nil}, {3, []impl.Rule{rule(impl.RuAtY, 2, 0, 4)}, 5, nil}, {3, []impl.Rule{rule(impl.RuAtX, 2, 0, 4), rule(impl.RuAtY, 2, 0, 4)}, 4, nil},
		{3, []impl.Rule{rule(impl.RuDX, 0, 1, 4)}, 5, nil}, {3, []impl.Rule{rule(impl.RuDY, 0, 1, 4)}, 5, nil}, {3, []impl.Rule{rule(impl.RuPlumb, 0, 1, 0)}, 5, nil}, {3, []impl.Rule{rule(impl.RuLevel, 0, 1, 0)}, 5, nil},
		{3, []impl.Rule{same}, 4, nil}, {3, []impl.Rule{rule(impl.RuLeastX, 0, 1, 4), rule(impl.RuLeastY, 0, 1, 4)}, 6, nil},
		// RuLeastX ties nothing and is never spare, not even where it says all there is, or nothing.
		{2, []impl.Rule{rule(impl.RuLeastX, 0, 1, 4), rule(impl.RuLeastX, 1, 0, -4), rule(impl.RuDX, 0, 1, 4)}, 3, nil}, {2, []impl.Rule{rule(impl.RuLeastX, 0, 1, impl.MaxAt), rule(impl.RuAtX, 1, 0, impl.MaxAt)}, 3, nil},
		{2, []impl.Rule{rule(impl.RuDX, 0, 1, 4), rule(impl.RuLeastX, 0, 1, 4), rule(impl.RuLeastX, 0, 1, 4), rule(impl.RuLeastX, 1, 1, 0), rule(impl.RuLeastY, 1, 1, -9)}, 3, nil},
		// A rule of one point says nothing, wherever it stands.
		{2, []impl.Rule{rule(impl.RuDX, 1, 1, 0), rule(impl.RuDY, 1, 1, 0), rule(impl.RuPlumb, 0, 0, 0), rule(impl.RuLevel, 1, 1, 0), rule(impl.RuSame, 1, 1, 0)}, 4, []int{0, 1, 2, 3, 4}},
		// Told again, straight and the other way round.
		{2, []impl.Rule{rule(impl.RuDX, 0, 1, 4), rule(impl.RuDX, 0, 1, 4), rule(impl.RuDX, 1, 0, -4)}, 3, []int{1, 2}}, {2, []impl.Rule{put[0], put[0]}, 3, []int{1}}, {2, []impl.Rule{rule(impl.RuAtY, 1, 0, 4), rule(impl.RuAtX, 1, 0, 4), rule(impl.RuAtY, 1, 0, 4)}, 2, []int{2}},
		// A ring: the rule that closes it.
		{3, []impl.Rule{rule(impl.RuDX, 0, 1, 4), rule(impl.RuDX, 1, 2, 4), rule(impl.RuDX, 0, 2, 8)}, 4, []int{2}}, {3, []impl.Rule{rule(impl.RuDX, 0, 2, 8), rule(impl.RuLevel, 1, 2, 0), rule(impl.RuDX, 0, 1, 4), rule(impl.RuDX, 1, 2, 4)}, 3, []int{3}},
		// Two points that are put somewhere are tied to one another, and to a third that hangs on one of them.
		{2, []impl.Rule{put[0], put[1], rule(impl.RuDX, 0, 1, 0), rule(impl.RuPlumb, 1, 0, 0)}, 2, []int{2, 3}}, {3, []impl.Rule{put[0], rule(impl.RuDX, 1, 2, 3), rule(impl.RuPlumb, 0, 1, 0), rule(impl.RuAtX, 2, 0, 8)}, 3, []int{3}},
		// Groups that are tied to nothing else than one another.
		{4, []impl.Rule{rule(impl.RuDX, 0, 1, 4), rule(impl.RuDX, 2, 3, 4), rule(impl.RuLevel, 0, 1, 0), rule(impl.RuLevel, 2, 3, 0)}, 4, nil}, {4, []impl.Rule{rule(impl.RuSame, 0, 1, 0), rule(impl.RuSame, 2, 3, 0), rule(impl.RuDX, 1, 2, 4)}, 3, nil},
		// RuSame: of neither, of X alone, of Y alone, of both.
		{2, []impl.Rule{same, same}, 2, []int{1}}, {2, []impl.Rule{rule(impl.RuPlumb, 0, 1, 0), same, rule(impl.RuLevel, 0, 1, 0)}, 2, []int{2}}, {2, []impl.Rule{rule(impl.RuLevel, 0, 1, 0), same, rule(impl.RuPlumb, 0, 1, 0)}, 2, []int{2}},
		{2, []impl.Rule{rule(impl.RuLevel, 0, 1, 0), rule(impl.RuPlumb, 0, 1, 0), same}, 2, []int{2}}, {2, append(slices.Clone(put), same), 0, []int{4}}, {2, append(slices.Clone(put[:3]), same), 0, nil}, {2, append(slices.Clone(put[1:]), same), 0, nil}, {2, append([]impl.Rule{same}, put...), 0, []int{2, 4}},
		// X and Y of points are not tied to each other, even where both are told.
		{2, []impl.Rule{put[0], put[3], rule(impl.RuPlumb, 0, 1, 0), rule(impl.RuLevel, 0, 1, 0)}, 0, nil}, {2, []impl.Rule{rule(impl.RuPlumb, 0, 1, 0), rule(impl.RuLevel, 0, 1, 0)}, 2, nil},
	} {
		s := sketch(c.points, c.rules...)
		if free, spare, code := impl.SketchFree(s); free != c.free || !slices.Equal(spare, c.spare) || code != impl.OK {
			t.Error("SketchFree", s, free, spare, code, "not", c.free, c.spare)
		}
		checkSketch(t, s)
	}
}

func TestSketchFreeOfChains(t *testing.T) {
	for _, back := range []bool{false, true} {
		for _, c := range []struct{ kind, free int }{{impl.RuDX, 25}, {impl.RuDY, 25}, {impl.RuLeastX, 48}, {impl.RuLeastY, 48}, {impl.RuPlumb, 25}, {impl.RuLevel, 25}, {impl.RuSame, 2}} {
			s := chain(c.kind, impl.MaxPoints, 0, back)
			if free, spare, code := impl.SketchFree(s); free != c.free || len(spare) != 0 || code != impl.OK {
				t.Error("SketchFree of a chain", c.kind, back, free, spare, code)
			}
			s.Rules = append(s.Rules, rule(impl.RuSame, impl.MaxPoints-1, 0, 0))
			checkFree(t, s)
		}
	}
	if free, spare, code := impl.SketchFree(sketch(1, manyRules(impl.MaxRules)...)); free != 2 || len(spare) != impl.MaxRules || code != impl.OK {
		t.Error("SketchFree of rules that all say nothing", free, spare, code)
	}
}

func TestSketchMoveTold(t *testing.T) {
	const m = impl.MaxAt
	box := sketch(4, rule(impl.RuLevel, 0, 1, 0), rule(impl.RuPlumb, 1, 2, 0), rule(impl.RuLevel, 2, 3, 0), rule(impl.RuPlumb, 3, 0, 0), rule(impl.RuDX, 0, 1, 40), rule(impl.RuLeastY, 0, 3, 30))
	for _, c := range []struct {
		s     impl.Sketch
		point int
		to    impl.Point
		want  []impl.Point
		core  []int
	}{
		{sketch(1), 0, at(0, 0), points(0, 0), nil}, {sketch(1), 0, at(m, m), points(m, m), nil}, {sketch(2), 1, at(3, 4), points(0, 0, 3, 4), nil}, {sketch(impl.MaxPoints), 23, at(0, 0), make([]impl.Point, impl.MaxPoints), nil},
		{box, 0, at(0, 0), points(0, 0, 40, 0, 40, 30, 0, 30), nil}, {box, 2, at(40, 30), points(0, 0, 40, 0, 40, 30, 0, 30), nil}, {box, 2, at(47, 90), points(7, 0, 47, 0, 47, 90, 7, 90), nil}, {box, 1, at(41, 9), points(1, 9, 41, 9, 41, 39, 1, 39), nil},
		{box, 0, at(m-40, m-30), points(m-40, m-30, m, m-30, m, m, m-40, m), nil},
		{box, 0, at(m-39, 0), nil, []int{4, 6}}, {box, 0, at(0, m-29), nil, []int{5, 7}}, {box, 1, at(39, 0), nil, []int{4, 6}}, {box, 2, at(40, 29), nil, []int{2, 5, 7}}, {box, 2, at(39, 29), nil, []int{1, 4, 6}},
		// Places that are no points of a sketch, though a rule may name them.
		{box, 3, at(-1, 0), nil, []int{6}}, {box, 3, at(0, -1), nil, []int{7}}, {box, 3, at(-m, -m), nil, []int{6}}, {sketch(1), 0, at(-1, -1), nil, []int{0}}, {sketch(1), 0, at(1, -1), nil, []int{1}},
		// A point that stands elsewhere already; rules that could not be kept before.
		{sketch(1, rule(impl.RuAtX, 0, 0, 5)), 0, at(5, 1), points(5, 1), nil}, {sketch(1, rule(impl.RuAtX, 0, 0, 5)), 0, at(6, 1), nil, []int{0, 1}}, {sketch(1, rule(impl.RuAtY, 0, 0, 5)), 0, at(5, 1), nil, []int{0, 2}},
		{sketch(2, rule(impl.RuDX, 0, 1, 5), rule(impl.RuPlumb, 0, 1, 0)), 0, at(6, 1), nil, []int{0, 1}}, {sketch(2, rule(impl.RuAtX, 1, 0, -5)), 0, at(-6, -1), nil, []int{0}},
	} {
		wantCode := impl.OK
		if len(c.core) > 0 {
			wantCode = impl.ErrCore
		}
		if p, code, core := impl.SketchMove(c.s, c.point, c.to); !slices.Equal(p, c.want) || code != wantCode || !slices.Equal(core, c.core) {
			t.Error("SketchMove", c.s, c.point, c.to, p, code, core, "not", c.want, c.core)
		}
	}
}

func TestSketchMoveOfNone(t *testing.T) {
	s := sketch(3, rule(impl.RuDX, 0, 1, 4))
	bad := func(s impl.Sketch, point int, to impl.Point) {
		t.Helper()
		if p, code, core := impl.SketchMove(s, point, to); len(p) != 0 || code != impl.ErrBad || len(core) != 0 {
			t.Error("SketchMove", s.Points, len(s.Rules), point, to, p, code, core)
		}
	}
	for _, point := range []int{-1, 3, 4, impl.MaxPoints, least, greatest, 1 << 32} {
		bad(s, point, at(0, 0))
		bad(s, point, wrongPoints[0])
		bad(sketch(1, rule(impl.RuAtX, 0, 0, -1)), point, at(0, 0)) // ahead of the core
	}
	for _, wrong := range wrongPoints {
		bad(s, 0, wrong)
		bad(s, 2, wrong)
	}
	for _, count := range []int{impl.MaxRules - 1, impl.MaxRules, impl.MaxRules + 1, impl.MaxList + 1} {
		bad(sketch(1, manyRules(count)...), 0, at(0, 0))
	}
	for _, count := range []int{0, 1, impl.MaxRules - 3, impl.MaxRules - 2} {
		if p, code, core := impl.SketchMove(sketch(1, manyRules(count)...), 0, at(2, 3)); !slices.Equal(p, points(2, 3)) || code != impl.OK || len(core) != 0 {
			t.Error("SketchMove of", count, "rules", p, code, core)
		}
		if _, code, core := impl.SketchMove(sketch(1, manyRules(count)...), 0, at(2, -3)); code != impl.ErrCore || !slices.Equal(core, []int{count + 1}) {
			t.Error("SketchMove of", count, "rules, too low", code, core)
		}
	}
}

func TestSketchMoveIsSolvingWithTwoMore(t *testing.T) {
	draw := rand.New(rand.NewSource(54))
	moved := 0
	for n := range 600 {
		s := drawnSketch(draw, 1+draw.Intn(6), draw.Intn(9), 9, n%3 > 0)
		point, to := draw.Intn(s.Points), at(draw.Intn(14)-1, draw.Intn(14)-1)
		more := sketch(s.Points, slices.Concat(s.Rules, []impl.Rule{rule(impl.RuAtX, point, 0, to.X), rule(impl.RuAtY, point, 0, to.Y)})...)
		p, code, core := impl.SketchMove(s, point, to)
		if checkSketch(t, more) {
			moved++
		}
		if q, wantCode, wantCore := impl.SketchSolve(more); !slices.Equal(p, q) || code != wantCode || !slices.Equal(core, wantCore) {
			t.Fatal("SketchMove", s, point, to, p, code, core, "not", q, wantCode, wantCore)
		}
		if solved, code, _ := impl.SketchSolve(s); code == impl.OK {
			if p, code, core := impl.SketchMove(s, point, solved[point]); !slices.Equal(p, solved) || code != impl.OK || len(core) != 0 {
				t.Fatal("SketchMove to where it stands", s, point, p, code, core, "not", solved)
			}
		}
	}
	if moved < 100 || moved > 500 {
		t.Error("too few moves of one sort were drawn:", moved)
	}
}

func TestSketchAnswersAreNewMemory(t *testing.T) {
	behind := rule(77, 77, 77, 77)
	for _, rules := range [][]impl.Rule{nil, {rule(impl.RuDX, 0, 1, 4), rule(impl.RuDX, 0, 1, 4)}, {rule(impl.RuDX, 0, 1, 4), rule(impl.RuLevel, 0, 1, 0), rule(impl.RuPlumb, 0, 1, 0)}, {rule(impl.RuAtX, 0, 0, -4)}} {
		array := append(slices.Clone(rules), behind, behind, behind, behind)
		s := sketch(2, array[:len(rules)]...)
		all := func() string {
			p, code, core := impl.SketchSolve(s)
			free, spare, freeCode := impl.SketchFree(s)
			q, moveCode, moveCore := impl.SketchMove(s, 1, at(9, 9))
			told := fmt.Sprint(impl.SketchOK(s), p, code, core, free, spare, freeCode, q, moveCode, moveCore)
			for _, list := range [][]int{core, spare, moveCore} {
				for i := range list[:cap(list)] {
					list[:cap(list)][i] = 77
				}
			}
			for _, list := range [][]impl.Point{p, q} {
				for i := range list[:cap(list)] {
					list[:cap(list)][i] = at(77, 77)
				}
			}
			return told
		}
		first := all()
		if again := all(); again != first {
			t.Error("answers share memory", rules, first, again)
		}
		if !slices.Equal(array, append(slices.Clone(rules), behind, behind, behind, behind)) {
			t.Error("an argument was changed", rules, array)
		}
	}
}

// sketchCalls: calls of every function of the layer, right, at an edge and wrong.
func sketchCalls() []func() string {
	var calls []func() string
	tell := func(call func() string) { calls = append(calls, call) }
	for _, s := range []impl.Sketch{
		{}, {Points: 1}, {Points: 1, Rules: []impl.Rule{}}, {Points: impl.MaxPoints + 1}, {Points: least}, chain(impl.RuDX, 24, 9, true), chain(impl.RuLeastY, 24, impl.MaxAt, false),
		sketch(2, rule(impl.RuSame, 0, 1, 0), rule(impl.RuDX, 0, 1, 1)), sketch(2, rule(impl.RuLeastX, 0, 1, 1), rule(impl.RuLeastX, 1, 0, 0)), sketch(3, manyRules(60)...), sketch(3, manyRules(61)...), sketch(3, rule(10, 0, 0, 0)),
	} {
		tell(func() string { return fmt.Sprint("SketchOK ", impl.SketchOK(s)) })
		tell(func() string { return fmt.Sprint(impl.SketchSolve(s)) })
		tell(func() string { return fmt.Sprint(impl.SketchFree(s)) })
		for _, point := range []int{least, -1, 0, 1, 23, 24, greatest} {
			for _, to := range []impl.Point{at(0, 0), at(5, 5), at(-1, 0), wrongPoints[0]} {
				tell(func() string { return fmt.Sprint(impl.SketchMove(s, point, to)) })
			}
		}
	}
	return calls
}
