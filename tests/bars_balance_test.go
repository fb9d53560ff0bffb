package tests

import (
	"fmt"
	"slices"
	"strings"
	"testing"

	"loop.example/g00056/impl"
)

func checkStress(t *testing.T, told, shifts, forces string) {
	t.Helper()
	f := frameTold(t, told)
	want := impl.Stress{Shifts: fracsTold(t, shifts), Forces: fracsTold(t, forces)}
	if s, code := impl.Balance(f); code != impl.OK || !sameStress(s, want) {
		t.Error("Balance", told, s, code, "not", want)
		return
	}
	checkBalance(t, f)
}

func TestRestsOfOneNode(t *testing.T) {
	checkStress(t, "0-g:5 | 10", "2", "-10")
	checkStress(t, "0-g:5 | -10", "-2", "10")
	checkStress(t, "0-g:4 | 6", "3/2", "-6")
	checkStress(t, "0-g:6 | -4", "-2/3", "4")
	checkStress(t, "0-g:7 | 0", "0", "0")
	// the ends of what stiffnesses and loads may be
	checkStress(t, "0-g:1 | 1000", "1000", "-1000")
	checkStress(t, "0-g:1 | -1000", "-1000", "1000")
	checkStress(t, "0-g:1000 | 1000", "1", "-1000")
	checkStress(t, "0-g:1000 | -1", "-1/1000", "1")
	// springs side by side
	checkStress(t, "0-g:2 0-g:5 | -3", "-3/7", "6/7 15/7")
	checkStress(t, "0-g:5 0-g:2 | -3", "-3/7", "15/7 6/7")
	checkStress(t, "0-g:1 0-g:1 0-g:1 | 1", "1/3", "-1/3 -1/3 -1/3")
	checkStress(t, strings.Repeat("0-g:1000 ", 20)+"| 1000", "1/20", strings.Repeat("-50 ", 20))
	checkStress(t, strings.Repeat("0-g:1 ", 20)+"| -1000", "-50", strings.Repeat("50 ", 20))
}

func TestRestsOfNodesInARow(t *testing.T) {
	checkStress(t, "0-g:2 1-0:3 | 0 6", "3 5", "-6 -6")
	checkStress(t, "0-g:2 0-1:3 | 0 6", "3 5", "-6 6") // A and B exchanged
	checkStress(t, "1-0:3 0-g:2 | 0 6", "3 5", "-6 -6")
	checkStress(t, "1-g:2 0-1:3 | 6 0", "5 3", "-6 -6")
	checkStress(t, "0-g:2 1-0:3 | 6 0", "3 3", "-6 0") // nothing pulls at the second one
	checkStress(t, "0-g:3 1-0:2 2-1:1 | 1 1 1", "1 2 3", "-3 -2 -1")
	checkStress(t, "2-g:2 1-2:2 0-1:2 | 4 0 0", "6 4 2", "-4 -4 -4")
	checkStress(t, "0-g:1 1-0:1 2-1:1 3-2:1 4-3:1 5-4:1 | 1 1 1 1 1 1", "6 11 15 18 20 21", "-6 -5 -4 -3 -2 -1")
	checkStress(t, "0-g:1 1-0:1 2-1:1 3-2:1 4-3:1 5-4:1 | 1000 1000 1000 1000 1000 1000", "6000 11000 15000 18000 20000 21000", "-6000 -5000 -4000 -3000 -2000 -1000")
	checkStress(t, "0-g:1000 1-0:1000 | 1 -3", "-1/500 -1/200", "2 3")
	// held at both ends
	checkStress(t, "0-g:1 1-0:1 1-g:1 | 0 3", "1 2", "-1 -1 -2")
	checkStress(t, "0-g:1 0-1:1 1-g:1 | 3 0", "2 1", "-2 -1 -1")
	checkStress(t, "0-g:1 1-0:1 2-1:1 2-g:1 | 0 4 0", "2 4 2", "-2 -2 2 -2")
	// between the ends nothing is moved by loads that are against one another
	checkStress(t, "0-g:1 1-0:2 | -4 4", "0 2", "0 -4")
	checkStress(t, "0-g:1 1-0:2 | 4 -4", "0 -2", "0 4")
	checkStress(t, "0-g:1 1-0:2 2-1:3 | -6 0 6", "0 3 5", "0 -6 -6")
	checkStress(t, "0-g:1 1-0:1 1-g:1 | -3 3", "-1 1", "1 -2 -1")
}

func TestRestsOfOtherFrames(t *testing.T) {
	// several springs between the same nodes, either way round
	checkStress(t, "0-g:2 1-0:1 0-1:2 1-0:3 | 0 12", "6 8", "-12 -2 4 -6")
	// two groups, each of them held
	checkStress(t, "0-g:2 1-g:4 | 6 -6", "3 -3/2", "-6 6")
	checkStress(t, "0-g:1 1-g:2 2-0:3 3-1:4 | 1 1 1 1", "2 1 7/3 5/4", "-2 -2 -1 -1")
	// a bridge that nothing goes over
	checkStress(t, "0-g:2 1-g:2 2-0:2 2-1:2 0-1:7 | 0 0 8", "2 2 4", "-4 -4 -4 -4 0")
	// a bridge that something goes over
	checkStress(t, "0-g:1 1-g:2 2-0:2 2-1:1 0-1:1 | 0 0 14", "6 4 10", "-6 -8 -8 -6 -2")
	// a star; no number joins the outer nodes
	checkStress(t, "0-g:1 1-0:1 2-0:1 3-0:1 4-0:1 5-0:1 | 0 1 2 3 -4 -2", "0 1 2 3 -4 -2", "0 -1 -2 -3 4 2")
	checkStress(t, "5-g:1 1-5:1 2-5:2 3-5:3 4-5:4 0-5:5 | 5 1 2 3 4 0", "16 16 16 16 16 15", "-15 -1 -2 -3 -4 -5")
	// all nodes joined with all, by as many springs as there may be; one of them is not held but by the others
	all := "0-1:1 0-2:1 0-3:1 0-4:1 0-5:1 1-2:1 1-3:1 1-4:1 1-5:1 2-3:1 2-4:1 2-5:1 3-4:1 3-5:1 4-5:1 0-g:1 1-g:1 2-g:1 3-g:1 4-g:1"
	checkStress(t, all+" | 0 0 0 0 0 10", "2 2 2 2 2 4", "0 0 0 0 2 0 0 0 2 0 0 2 0 2 2 -2 -2 -2 -2 -2")
	checkStress(t, all+" | 1 1 1 1 1 0", "1 1 1 1 1 1", strings.Repeat("0 ", 15)+strings.Repeat("-1 ", 5))
	checkStress(t, all+" | 0 0 0 0 0 0", "0 0 0 0 0 0", strings.Repeat("0 ", 20))
}

func TestNodesThatNothingHolds(t *testing.T) {
	for _, told := range []string{
		"| 0", "| 5", "| 0 0", "| 0 0 0 0 0 0", "| 1 2 3 4 5 6",
		"0-1:1 | 0 0", "1-0:1000 | 0 0", "0-1:1 | 7 0", "0-1:3 | -3 3", "0-1:1 1-0:1 | 0 0", // joined, but not with the ground
		"0-1:1 1-2:1 2-0:1 | 0 0 0", "0-1:1 1-2:1 2-3:1 3-4:1 4-5:1 5-0:1 | 1 -1 1 -1 1 -1",
		"0-g:1 | 0 0", "1-g:1 | 0 0", "0-g:1 | 5 0", "0-g:1 | 0 5", "1-g:1 0-1:1 | 0 0 0", "2-g:1 1-2:1 | 0 0 0", // a node without a spring
		"0-g:1 1-0:1 2-1:1 3-2:1 4-3:1 | 0 0 0 0 0 0", "5-g:1 1-5:1 2-1:1 3-2:1 4-3:1 | 0 0 0 0 0 0", "0-g:1 1-g:1 3-g:1 4-g:1 5-g:1 | 0 0 0 0 0 0",
		"0-g:1 1-2:1 | 0 0 0", "0-g:1 1-2:1 | 0 3 -3", "1-g:1 0-2:1 | 0 0 0", "2-g:1 0-1:1 | 0 0 0", "2-g:1 1-0:9 0-1:7 | 4 0 0", // a group that is held, one that is not
		"0-g:1 1-0:1 2-3:1 3-4:1 4-5:1 5-2:1 | 0 0 0 0 0 0", "0-5:1 5-1:1 2-4:1 4-3:1 3-g:1 | 0 0 0 0 0 0",
		// numbers that would be too great come behind it
		"0-g:5 1-0:53 2-0:243 2-1:80 | 3 0 0 0", "1-g:643 2-1:782 3-2:707 3-g:464 | 0 0 0 0", "0-g:997 0-1:991 1-g:983 2-3:1 | 1 0 0 0",
	} {
		f := frameTold(t, told)
		checkNotAtRest(t, f, impl.ErrState)
		checkBalance(t, f)
	}
	// held through others, in whatever order the springs come
	for _, told := range []string{
		"0-1:1 1-g:1 | 0 0", "0-1:1 1-2:1 2-g:1 | 0 0 0", "2-g:1 1-2:1 0-1:1 | 0 0 0", "1-2:1 0-2:1 1-g:1 | 0 0 0", "0-1:1 2-3:1 4-5:1 1-2:1 3-4:1 5-g:1 | 0 0 0 0 0 0", "5-0:1 0-4:1 4-1:1 1-3:1 3-2:1 2-g:1 | 0 0 0 0 0 0",
		"0-g:1 1-2:1 1-g:1 | 0 0 0", "0-g:1 1-2:1 2-0:1 | 0 0 0",
	} {
		if _, code := checkBalance(t, frameTold(t, told)); code != impl.OK {
			t.Error("Balance", told, code)
		}
	}
}

// joinedToGround walks from the ground on.
func joinedToGround(f impl.Frame) bool {
	reached := map[int]int{-1: 1}
	for range f.Nodes {
		for _, s := range f.Springs {
			if reached[s.A]+reached[s.B] > 0 {
				reached[s.A], reached[s.B] = 1, 1
			}
		}
	}
	return !slices.ContainsFunc(numbersTo(f.Nodes), func(node int) bool { return reached[node] == 0 })
}

// All choices of springs between up to four nodes, one between each two.
func TestNodesHeldByAnySprings(t *testing.T) {
	codes := map[int]int{}
	for nodes := 1; nodes <= 4; nodes++ {
		var all []impl.Spring
		for b := -1; b < nodes; b++ {
			for a := b + 1; a < nodes; a++ {
				all = append(all, spring(a, b, 1+len(all)))
			}
		}
		for choice := range 1 << len(all) {
			f := frameOf(nodes, numbersTo(nodes))
			for i, s := range all {
				if choice>>i&1 == 1 {
					f.Springs = append(f.Springs, s)
				}
			}
			_, code := checkBalance(t, f)
			if (code == impl.ErrState) == joinedToGround(f) {
				t.Fatal("Balance", f, code)
			}
			codes[code]++
		}
	}
	// of the graphs on 2, 3, 4 and 5 points 1, 4, 38 and 728 are in one piece
	if codes[impl.OK]+codes[impl.ErrOver] != 1+4+38+728 || codes[impl.ErrState] != 1+4+26+296 || codes[impl.OK] < 600 {
		t.Error("codes", codes)
	}
}

// eachFrame gives all frames of so many nodes and springs, of these stiffnesses
// and loads.
func eachFrame(nodes, springs int, stiffs, loads []int, give func(impl.Frame)) {
	var kinds []impl.Spring
	for a := range nodes {
		for b := -1; b < nodes; b++ {
			for _, stiff := range stiffs {
				if a != b {
					kinds = append(kinds, spring(a, b, stiff))
				}
			}
		}
	}
	var choose func(f impl.Frame)
	choose = func(f impl.Frame) {
		switch {
		case len(f.Springs) < springs:
			for _, s := range kinds {
				f.Springs = append(f.Springs, s)
				choose(f)
				f.Springs = f.Springs[:len(f.Springs)-1]
			}
		case len(f.Loads) < nodes:
			for _, load := range loads {
				f.Loads = append(f.Loads, load)
				choose(f)
				f.Loads = f.Loads[:len(f.Loads)-1]
			}
		default:
			give(f)
		}
	}
	choose(impl.Frame{Nodes: nodes})
}

func TestRestsOfAllSmallFrames(t *testing.T) {
	codes := map[int]int{}
	for _, c := range []struct {
		nodes, springs int
		stiffs, loads  []int
	}{
		{1, 0, nil, []int{-1, 0, 1}}, {1, 1, []int{1, 2, 999, 1000}, []int{-1000, -7, 0, 1, 1000}}, {1, 3, []int{1, 6, 1000}, []int{-9, 0, 4}}, {2, 1, []int{1}, []int{0, 1}},
		{2, 2, []int{1, 7, 1000}, []int{-1000, 0, 3}}, {2, 3, []int{1, 5}, []int{-2, 0, 3}}, {2, 4, []int{2}, []int{-1, 1}}, {3, 2, []int{1}, []int{0, 1}}, {3, 3, []int{3}, []int{-1, 0, 2}}, {3, 4, []int{1}, []int{0, 2}},
	} {
		eachFrame(c.nodes, c.springs, c.stiffs, c.loads, func(f impl.Frame) {
			_, code := checkBalance(t, f)
			codes[code]++
		})
	}
	if codes[impl.OK] < 10000 || codes[impl.ErrState] < 10000 {
		t.Error("codes", codes)
	}
}

// An empty list and nil are one value: without springs nothing is held.
func TestFramesWithEmptyLists(t *testing.T) {
	for nodes := 1; nodes <= impl.MaxJoints; nodes++ {
		for _, springs := range [][]impl.Spring{nil, {}, make([]impl.Spring, 0, 5)} {
			checkNotAtRest(t, impl.Frame{Nodes: nodes, Springs: springs, Loads: make([]int, nodes)}, impl.ErrState)
		}
		for _, loads := range [][]int{nil, {}} {
			checkNoFrame(t, impl.Frame{Nodes: nodes, Loads: loads})
			checkNoFrame(t, impl.Frame{Nodes: nodes, Loads: loads, Springs: []impl.Spring{spring(0, -1, 1)}})
		}
	}
}

func TestBarAnswersAreNewMemory(t *testing.T) {
	for _, told := range []string{"0-g:2 1-0:3 | 0 6", "0-g:5 | 10", "0-g:1 1-0:1 2-1:1 3-2:1 4-3:1 5-4:1 | 1 1 1 1 1 1", "0-g:2 0-1:3 1-0:7 | 1 6", "0-1:3 | 0 0", "0-g:5 1-0:53 2-0:243 2-1:80 | 3 0 0", "0-0:1 | 0", "| 0"} {
		f := frameTold(t, told)
		limits := allOf(3, len(f.Springs))
		call := func(f impl.Frame, limits []int) string {
			s, code := impl.Balance(f)
			answers, forces := fmt.Sprint(impl.FrameOK(f), s, code), fmt.Sprint(s.Forces)
			spoilAll(s.Shifts, frac(77, 77))
			if fmt.Sprint(s.Forces) != forces {
				t.Error("two lists of one answer share memory", told)
			}
			spoilAll(s.Forces, frac(77, 77))
			number, share, code := impl.Weakest(f, limits)
			return answers + fmt.Sprint(number, share, code)
		}
		checkGiven(t, f.Springs, spring(77, 77, 77), func(springs []impl.Spring) string {
			return call(impl.Frame{Nodes: f.Nodes, Springs: springs, Loads: f.Loads}, limits)
		})
		checkGiven(t, f.Loads, 77, func(loads []int) string {
			return call(impl.Frame{Nodes: f.Nodes, Springs: f.Springs, Loads: loads}, limits)
		})
		checkGiven(t, limits, 77, func(limits []int) string { return call(f, limits) })
	}
	// one list may be loads and limits
	numbers := []int{4, 6}
	f := impl.Frame{Nodes: 2, Springs: []impl.Spring{spring(0, -1, 2), spring(1, 0, 3)}, Loads: numbers}
	if number, share, code := impl.Weakest(f, numbers); number != 0 || share != frac(5, 2) || code != impl.OK || !slices.Equal(numbers, []int{4, 6}) {
		t.Error("Weakest of one list", number, share, code, numbers)
	}
}
