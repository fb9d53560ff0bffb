package tests

import (
	"math/rand"
	"slices"
	"testing"

	"loop.example/g00056/impl"
)

func keptBy(r impl.Rule, p []impl.Point) bool {
	a, b := p[r.A], p[r.B]
	switch r.Kind {
	case impl.RuAtX:
		return a.X == r.Num
	case impl.RuAtY:
		return a.Y == r.Num
	case impl.RuDX:
		return b.X-a.X == r.Num
	case impl.RuDY:
		return b.Y-a.Y == r.Num
	case impl.RuLeastX:
		return b.X-a.X >= r.Num
	case impl.RuLeastY:
		return b.Y-a.Y >= r.Num
	case impl.RuPlumb:
		return a.X == b.X
	case impl.RuLevel:
		return a.Y == b.Y
	}
	return a == b
}

func allKept(rules []impl.Rule, p []impl.Point) bool {
	for _, r := range rules {
		if !keptBy(r, p) {
			return false
		}
	}
	return true
}

// pairBounds has, of each two coordinates of one direction, by how much the
// second is above the first at least; the last one stands for 0.
type pairBounds [impl.MaxPoints + 1][impl.MaxPoints + 1]int

const origin = impl.MaxPoints

func newBounds(count int) *pairBounds {
	var b pairBounds
	for i := range b {
		for j := range b[i] {
			if i != j {
				b[i][j] = -10 * impl.MaxAt * impl.MaxPoints // as good as no bound
			}
		}
	}
	for i := range count {
		b[origin][i], b[i][origin] = 0, -impl.MaxAt
	}
	return &b
}

func (b *pairBounds) least(i, j, num int) { b[i][j] = max(b[i][j], num) }

func (b *pairBounds) just(i, j, num int) {
	b.least(i, j, num)
	b.least(j, i, -num)
}

// close takes each coordinate as one on the way between two others; it tells
// whether none is above itself.
func (b *pairBounds) close() bool {
	for k := range b {
		for i := range b {
			for j := range b {
				b.least(i, j, b[i][k]+b[k][j])
			}
		}
		for i := range b {
			if b[i][i] > 0 {
				return false
			}
		}
	}
	return true
}

func exactLowest(count int, rules []impl.Rule) ([]impl.Point, bool) {
	x, y := newBounds(count), newBounds(count)
	for _, r := range rules {
		switch r.Kind {
		case impl.RuAtX:
			x.just(origin, r.A, r.Num)
		case impl.RuAtY:
			y.just(origin, r.A, r.Num)
		case impl.RuLeastX:
			x.least(r.A, r.B, r.Num)
		case impl.RuLeastY:
			y.least(r.A, r.B, r.Num)
		}
		if r.Kind == impl.RuDX || r.Kind == impl.RuPlumb || r.Kind == impl.RuSame {
			x.just(r.A, r.B, r.Num)
		}
		if r.Kind == impl.RuDY || r.Kind == impl.RuLevel || r.Kind == impl.RuSame {
			y.just(r.A, r.B, r.Num)
		}
	}
	if !x.close() || !y.close() {
		return nil, false
	}
	p := make([]impl.Point, count)
	for i := range p {
		p[i] = at(x[origin][i], y[origin][i])
	}
	return p, true
}

func rulesOf(s impl.Sketch, numbers []int) []impl.Rule {
	var rules []impl.Rule
	for _, n := range numbers {
		rules = append(rules, s.Rules[n])
	}
	return rules
}

// exactCore drops rules from behind, in the document's words.
func exactCore(s impl.Sketch) []int {
	var left []int
	for n := range s.Rules {
		left = append(left, n)
	}
	for n := len(s.Rules) - 1; n >= 0; n-- {
		others := slices.DeleteFunc(slices.Clone(left), func(m int) bool { return m == n })
		if _, kept := exactLowest(s.Points, rulesOf(s, others)); !kept {
			left = others
		}
	}
	return left
}

// checkSketch holds all that is told of a sketch against exact bounds and
// against each other, and tells whether its rules can be kept.
func checkSketch(t *testing.T, s impl.Sketch) bool {
	t.Helper()
	p, code, core := impl.SketchSolve(s)
	want, kept := exactLowest(s.Points, s.Rules)
	if kept {
		if !slices.Equal(p, want) || code != impl.OK || len(core) != 0 || !allKept(s.Rules, p) {
			t.Fatal("SketchSolve", s, p, code, core, "not", want)
		}
		checkFree(t, s)
		return true
	}
	if wantCore := exactCore(s); len(p) != 0 || code != impl.ErrCore || !slices.Equal(core, wantCore) {
		t.Fatal("SketchSolve", s, p, code, core, "not the core", wantCore)
	}
	if free, spare, code := impl.SketchFree(s); free != 0 || len(spare) != 0 || code != impl.ErrCore {
		t.Fatal("SketchFree of a core", s, free, spare, code)
	}
	checkIsCore(t, s, core)
	return false
}

func checkIsCore(t *testing.T, s impl.Sketch, core []int) {
	t.Helper()
	if !slices.IsSorted(core) {
		t.Fatal("a core does not rise", s, core)
	}
	if _, code, _ := impl.SketchSolve(sketch(s.Points, rulesOf(s, core)...)); code != impl.ErrCore {
		t.Fatal("a core can be kept", s, core, code)
	}
	for i := range core {
		others := slices.Delete(slices.Clone(core), i, i+1)
		p, code, _ := impl.SketchSolve(sketch(s.Points, rulesOf(s, others)...))
		if code != impl.OK || !allKept(rulesOf(s, others), p) {
			t.Fatal("a core can not be kept without one", s, core, i, p, code)
		}
	}
}

// nearRules are all rules of X and of both of two points, with small numbers.
func nearRules() []impl.Rule {
	var list []impl.Rule
	for a := range 2 {
		for _, num := range []int{-1, 0, 1, 2} {
			list = append(list, rule(impl.RuAtX, a, 0, num))
		}
		for b := range 2 {
			for _, num := range []int{-1, 0, 1} {
				list = append(list, rule(impl.RuDX, a, b, num), rule(impl.RuLeastX, a, b, num))
			}
			list = append(list, rule(impl.RuPlumb, a, b, 0), rule(impl.RuSame, a, b, 0))
		}
	}
	return list
}

// lowestNear tries all places near 0: with three rules of nearRules no
// coordinate is ever forced beyond 4.
func lowestNear(rules []impl.Rule) ([]impl.Point, bool) {
	for sum := range 9 {
		for x := range sum + 1 {
			if p := points(x, 0, sum-x, 0); allKept(rules, p) {
				return p, true
			}
		}
	}
	return nil, false
}

func TestAllNearSketches(t *testing.T) {
	near, kept := nearRules(), 0
	for _, a := range near {
		for _, b := range near {
			for _, c := range near {
				s := sketch(2, a, b, c)
				want, can := lowestNear(s.Rules)
				p, code, core := impl.SketchSolve(s)
				if can && (code != impl.OK || len(core) != 0 || !slices.Equal(p, want)) || !can && (code != impl.ErrCore || len(p) != 0 || !slices.Equal(core, nearCore(s))) {
					t.Fatal("SketchSolve", s, p, code, core, "not", want)
				}
				if can {
					kept++
					checkFree(t, s)
				}
			}
		}
	}
	if kept < 10000 || kept > len(near)*len(near)*len(near)-10000 {
		t.Error("too few sketches of one sort:", kept)
	}
}

func nearCore(s impl.Sketch) []int {
	left := []int{0, 1, 2}
	for n := 2; n >= 0; n-- {
		others := slices.DeleteFunc(slices.Clone(left), func(m int) bool { return m == n })
		if _, can := lowestNear(rulesOf(s, others)); !can {
			left = others
		}
	}
	return left
}

// drawnSketch has rules with numbers up to reach; true ones are kept by points
// that were drawn ahead.
func drawnSketch(draw *rand.Rand, count, rules, reach int, isTrue bool) impl.Sketch {
	s := impl.Sketch{Points: count}
	home := make([]impl.Point, count)
	for i := range home {
		home[i] = at(draw.Intn(4)*reach/3, draw.Intn(4)*reach/3) // few places, so that rules agree
	}
	for len(s.Rules) < rules {
		r := rule(1+draw.Intn(9), draw.Intn(count), draw.Intn(count), 0)
		if r.Kind <= impl.RuAtY {
			r.B = 0
		}
		if r.Kind <= impl.RuLeastY {
			r.Num = drawnNum(draw, r, home)
		}
		if !isTrue || keptBy(r, home) {
			s.Rules = append(s.Rules, r)
		}
	}
	return s
}

// drawnNum is one that home keeps, most of the time just so.
func drawnNum(draw *rand.Rand, r impl.Rule, home []impl.Point) int {
	a, b := home[r.A], home[r.B]
	slack := draw.Intn(3) * draw.Intn(5)
	switch r.Kind {
	case impl.RuAtX:
		return a.X
	case impl.RuAtY:
		return a.Y
	case impl.RuDX:
		return b.X - a.X
	case impl.RuDY:
		return b.Y - a.Y
	case impl.RuLeastX:
		return max(-impl.MaxAt, b.X-a.X-slack)
	}
	return max(-impl.MaxAt, b.Y-a.Y-slack)
}

// spoilt turns the numbers of some rules by a little.
func spoilt(draw *rand.Rand, s impl.Sketch, count int) impl.Sketch {
	s.Rules = slices.Clone(s.Rules)
	for range min(count, len(s.Rules)) {
		r := &s.Rules[draw.Intn(len(s.Rules))]
		if r.Kind <= impl.RuLeastY {
			r.Num = max(-impl.MaxAt, min(r.Num+draw.Intn(7)-3, impl.MaxAt))
		}
	}
	return s
}

func TestDrawnSketches(t *testing.T) {
	draw := rand.New(rand.NewSource(51))
	kept, cores := 0, 0
	for _, reach := range []int{1, 4, 60, impl.MaxAt} {
		for n := range 150 {
			count := 1 + draw.Intn(6)
			if n%10 == 0 {
				count = impl.MaxPoints
			}
			for _, s := range []impl.Sketch{
				drawnSketch(draw, count, draw.Intn(9), reach, false), drawnSketch(draw, count, draw.Intn(2*count+1), reach, true),
				spoilt(draw, drawnSketch(draw, count, draw.Intn(2*count+1), reach, true), 1+draw.Intn(4)),
				spoilt(draw, drawnSketch(draw, count, min(3*count, impl.MaxRules), reach, true), 1+draw.Intn(9)),
			} {
				if checkSketch(t, s) {
					kept++
				} else {
					cores++
				}
			}
		}
	}
	if kept < 300 || cores < 300 {
		t.Error("too few sketches of one sort were drawn:", kept, cores)
	}
}

func TestDrawnSketchesOfAllRules(t *testing.T) {
	draw := rand.New(rand.NewSource(52))
	for range 12 {
		s := drawnSketch(draw, impl.MaxPoints, impl.MaxRules, impl.MaxAt, true)
		if !checkSketch(t, s) {
			t.Fatal("rules that points keep were not kept", s)
		}
		checkSketch(t, spoilt(draw, s, 2))
		checkSketch(t, spoilt(draw, s, 30))
	}
}

// turned tells the sketch with X for Y.
func turned(s impl.Sketch) impl.Sketch {
	other := []int{0, impl.RuAtY, impl.RuAtX, impl.RuDY, impl.RuDX, impl.RuLeastY, impl.RuLeastX, impl.RuLevel, impl.RuPlumb, impl.RuSame}
	s.Rules = slices.Clone(s.Rules)
	for i := range s.Rules {
		s.Rules[i].Kind = other[s.Rules[i].Kind]
	}
	return s
}

func TestSketchesTurnedAndShuffled(t *testing.T) {
	draw := rand.New(rand.NewSource(53))
	for n := range 400 {
		s := drawnSketch(draw, 1+draw.Intn(7), draw.Intn(12), 9, n%2 == 0)
		p, code, core := impl.SketchSolve(s)
		free, spare, _ := impl.SketchFree(s)
		q, turnedCode, turnedCore := impl.SketchSolve(turned(s))
		turnedFree, turnedSpare, _ := impl.SketchFree(turned(s))
		for i := range q {
			q[i] = at(q[i].Y, q[i].X)
		}
		if !slices.Equal(p, q) || code != turnedCode || !slices.Equal(core, turnedCore) || free != turnedFree || !slices.Equal(spare, turnedSpare) {
			t.Fatal("with X for Y", s, p, q, code, turnedCode, core, turnedCore, free, turnedFree)
		}
		mixed := sketch(s.Points, slices.Clone(s.Rules)...)
		draw.Shuffle(len(mixed.Rules), func(i, j int) { mixed.Rules[i], mixed.Rules[j] = mixed.Rules[j], mixed.Rules[i] })
		mixedPoints, mixedCode, _ := impl.SketchSolve(mixed)
		mixedFree, _, _ := impl.SketchFree(mixed)
		if !slices.Equal(p, mixedPoints) || code != mixedCode || free != mixedFree {
			t.Fatal("with its rules in another order", s, mixed, p, mixedPoints, code, mixedCode, free, mixedFree)
		}
	}
}
