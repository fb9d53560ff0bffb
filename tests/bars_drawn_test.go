package tests

import (
	"math/rand"
	"slices"
	"testing"

	"loop.example/g00056/impl"
)

// drawnFrame: each node is joined to one ahead of it or to the ground, then more
// springs come, and all are stirred; the ends are exchanged at will.
func drawnFrame(draw *rand.Rand, nodes, stiff, load int) impl.Frame {
	f := impl.Frame{Nodes: nodes}
	add := func(a, b int) {
		if b >= 0 && draw.Intn(2) == 0 {
			a, b = b, a
		}
		f.Springs = append(f.Springs, spring(a, b, 1+draw.Intn(stiff)))
	}
	for node := range nodes {
		add(node, draw.Intn(node+1)-1)
		f.Loads = append(f.Loads, draw.Intn(2*load+1)-load)
	}
	for range min(draw.Intn(nodes+2), impl.MaxSprings-nodes) {
		if a, b := draw.Intn(nodes), draw.Intn(nodes+1)-1; a != b {
			add(a, b)
		}
	}
	draw.Shuffle(len(f.Springs), func(i, j int) { f.Springs[i], f.Springs[j] = f.Springs[j], f.Springs[i] })
	return f
}

// drawnFrames: of all sizes, with small numbers and with great ones.
func drawnFrames(draw *rand.Rand, times int, do func(impl.Frame)) {
	for nodes := 1; nodes <= impl.MaxJoints; nodes++ {
		for _, stiff := range []int{1, 4, 15, 60, 250, stiffest} {
			for _, load := range []int{1, 30, heaviest} {
				for range times {
					do(drawnFrame(draw, nodes, stiff, load))
				}
			}
		}
	}
}

func TestRestsOfDrawnFrames(t *testing.T) {
	draw := rand.New(rand.NewSource(171))
	codes, great := map[int]int{}, 0
	drawnFrames(draw, 200, func(f impl.Frame) {
		_, code := checkBalance(t, f)
		codes[code]++
		for _, n := range exactWay(f).way {
			if code == impl.OK && n.value.Num().BitLen()+n.value.Denom().BitLen() > 50 {
				great++
				break
			}
		}
	})
	if codes[impl.OK] < 10000 || codes[impl.ErrOver] < 3000 || great < 400 {
		t.Error("codes", codes, "right, but great", great)
	}
}

func TestRestsOfManySprings(t *testing.T) {
	draw := rand.New(rand.NewSource(172))
	codes := map[int]int{}
	for range 600 {
		nodes := 1 + draw.Intn(impl.MaxJoints)
		f := drawnFrame(draw, nodes, 1+draw.Intn(3), 20)
		for len(f.Springs) < impl.MaxSprings {
			f.Springs = append(f.Springs, f.Springs[draw.Intn(len(f.Springs))])
		}
		_, code := checkBalance(t, f)
		codes[code]++
		f.Springs = append(f.Springs, f.Springs[0])
		checkNoFrame(t, f)
	}
	if codes[impl.OK] < 400 {
		t.Error("codes", codes)
	}
}

// Springs are dropped until nodes are loose, and beyond that.
func TestRestsOfFramesThatFallApart(t *testing.T) {
	draw := rand.New(rand.NewSource(173))
	codes := map[int]int{}
	drawnFrames(draw, 10, func(f impl.Frame) {
		for len(f.Springs) > 0 {
			at := draw.Intn(len(f.Springs))
			f.Springs = slices.Delete(f.Springs, at, at+1)
			_, code := checkBalance(t, f)
			if (code == impl.ErrState) == joinedToGround(f) {
				t.Fatal("Balance", f, code)
			}
			codes[code]++
		}
	})
	if codes[impl.OK] < 100 || codes[impl.ErrState] < 2000 || codes[impl.ErrOver] < 100 {
		t.Error("codes", codes)
	}
}

func negatives(list []impl.Frac) []impl.Frac {
	var other []impl.Frac
	for _, f := range list {
		other = append(other, frac(-f.N, f.D))
	}
	return other
}

func checkSameStress(t *testing.T, f impl.Frame, want impl.Stress, wantCode int) {
	t.Helper()
	if s, code := impl.Balance(f); code != wantCode || !sameStress(s, want) {
		t.Fatal("Balance", f, s, code, "not", want, wantCode)
	}
}

// Loads the other way round give all the other way round. No code changes.
func TestRestsOfLoadsTheOtherWayRound(t *testing.T) {
	draw := rand.New(rand.NewSource(174))
	drawnFrames(draw, 20, func(f impl.Frame) {
		s, code := impl.Balance(f)
		for i := range f.Loads {
			f.Loads[i] = -f.Loads[i]
		}
		checkSameStress(t, f, impl.Stress{Shifts: negatives(s.Shifts), Forces: negatives(s.Forces)}, code)
	})
}

// A spring whose ends are exchanged has its force the other way round, and
// springs in another order have their forces in that order. The rows are the
// same, so that no code changes.
func TestRestsOfSpringsToldOtherwise(t *testing.T) {
	draw := rand.New(rand.NewSource(175))
	drawnFrames(draw, 20, func(f impl.Frame) {
		s, code := impl.Balance(f)
		g, want := copiedFrame(f), impl.Stress{Shifts: s.Shifts, Forces: slices.Clone(s.Forces)}
		for i, one := range g.Springs {
			if one.B >= 0 && draw.Intn(2) == 0 {
				g.Springs[i].A, g.Springs[i].B = one.B, one.A
				if code == impl.OK {
					want.Forces[i].N = -want.Forces[i].N
				}
			}
		}
		checkSameStress(t, g, want, code)
		draw.Shuffle(len(g.Springs), func(i, j int) {
			g.Springs[i], g.Springs[j] = g.Springs[j], g.Springs[i]
			if code == impl.OK {
				want.Forces[i], want.Forces[j] = want.Forces[j], want.Forces[i]
			}
		})
		checkSameStress(t, g, want, code)
	})
}

// Nodes with other numbers have the same shifts, where both ways are right to
// their ends.
func TestRestsOfNodesNumberedOtherwise(t *testing.T) {
	draw := rand.New(rand.NewSource(176))
	both := 0
	drawnFrames(draw, 20, func(f impl.Frame) {
		numbers := draw.Perm(f.Nodes)
		g := copiedFrame(f)
		for i, one := range f.Springs {
			g.Springs[i].A = numbers[one.A]
			if one.B >= 0 {
				g.Springs[i].B = numbers[one.B]
			}
		}
		for node, number := range numbers {
			g.Loads[number] = f.Loads[node]
		}
		checkBalance(t, g)
		s, code := impl.Balance(f)
		other, otherCode := impl.Balance(g)
		if code != impl.OK || otherCode != impl.OK {
			return
		}
		both++
		for node, number := range numbers {
			if s.Shifts[node] != other.Shifts[number] {
				t.Fatal("Balance", f, s, "but", g, other)
			}
		}
		if !slices.Equal(s.Forces, other.Forces) {
			t.Fatal("Balance", f, s, "but", g, other)
		}
	})
	if both < 500 {
		t.Error("right both ways", both)
	}
}

// Loads that are added up give shifts and forces that are added up; a spring in
// two parts, side by side, holds as the whole one does.
func TestRestsOfLoadsTogetherAndSpringsInParts(t *testing.T) {
	draw := rand.New(rand.NewSource(177))
	together, inParts := 0, 0
	drawnFrames(draw, 20, func(f impl.Frame) {
		one, two := copiedFrame(f), copiedFrame(f)
		for i, load := range f.Loads {
			one.Loads[i] = draw.Intn(7) - 3
			two.Loads[i] = load - one.Loads[i]
		}
		s, code := impl.Balance(f)
		a, codeOne := impl.Balance(one)
		b, codeTwo := impl.Balance(two)
		if code == impl.OK && codeOne == impl.OK && codeTwo == impl.OK {
			together++
			whole, parts := slices.Concat(s.Shifts, s.Forces), slices.Concat(b.Shifts, b.Forces)
			for i, part := range slices.Concat(a.Shifts, a.Forces) {
				if sum, _ := impl.FracAdd(part, parts[i]); sum != whole[i] {
					t.Fatal("Balance", f, s, "but", one, a, two, b)
				}
			}
		}
		at := draw.Intn(len(f.Springs))
		if stiff := f.Springs[at].Stiff; stiff > 1 && len(f.Springs) < impl.MaxSprings {
			inParts++
			g := copiedFrame(f)
			g.Springs[at].Stiff = 1 + draw.Intn(stiff-1)
			g.Springs = append(g.Springs, spring(f.Springs[at].A, f.Springs[at].B, stiff-g.Springs[at].Stiff))
			parts, codeParts := checkBalance(t, g)
			if code == impl.OK && codeParts == impl.OK && !slices.Equal(parts.Shifts, s.Shifts) {
				t.Fatal("Balance", f, s, "but", g, parts)
			}
		}
	})
	if together < 500 || inParts < 500 {
		t.Error("together", together, "in parts", inParts)
	}
}
