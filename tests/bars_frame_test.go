package tests

import (
	"fmt"
	"math/big"
	"slices"
	"strconv"
	"strings"
	"testing"

	"loop.example/g00056/impl"
)

// What a stiffness and a load, and what a limit is at most.
const (
	stiffest      = 1000
	heaviest      = 1000
	greatestLimit = 1000000
)

// frameTold reads springs, from A to B (g is the ground) and their stiffness,
// and behind them the loads: "0-g:2 1-0:3 | 0 6".
func frameTold(t *testing.T, told string) impl.Frame {
	t.Helper()
	var f impl.Frame
	springs, loads, _ := strings.Cut(told, "|")
	for _, word := range strings.Fields(strings.ReplaceAll(springs, "g", "-1")) {
		var s impl.Spring
		if _, err := fmt.Sscanf(word, "%d-%d:%d", &s.A, &s.B, &s.Stiff); err != nil {
			t.Fatal("the case itself is wrong", told, err)
		}
		f.Springs = append(f.Springs, s)
	}
	for _, word := range strings.Fields(loads) {
		load, err := strconv.Atoi(word)
		if err != nil {
			t.Fatal("the case itself is wrong", told, err)
		}
		f.Loads = append(f.Loads, load)
	}
	f.Nodes = len(f.Loads)
	return f
}

func fracsTold(t *testing.T, told string) []impl.Frac {
	t.Helper()
	var list []impl.Frac
	for _, word := range strings.Fields(told) {
		value, ok := new(big.Rat).SetString(word)
		if !ok {
			t.Fatal("the case itself is wrong", told)
		}
		f, _ := rightOf(value)
		list = append(list, f)
	}
	return list
}

func spring(a, b, stiff int) impl.Spring { return impl.Spring{A: a, B: b, Stiff: stiff} }

func frameOf(nodes int, loads []int, springs ...impl.Spring) impl.Frame {
	return impl.Frame{Nodes: nodes, Springs: springs, Loads: loads}
}

func copiedFrame(f impl.Frame) impl.Frame {
	return impl.Frame{Nodes: f.Nodes, Springs: slices.Clone(f.Springs), Loads: slices.Clone(f.Loads)}
}

// checkNoFrame: each function says so.
func checkNoFrame(t *testing.T, f impl.Frame) {
	t.Helper()
	if impl.FrameOK(f) {
		t.Error("FrameOK", short(f))
	}
	checkNotAtRest(t, f, impl.ErrBad)
}

// checkNotAtRest: that code, and nothing with it, of both functions that have one,
// whatever the limits are.
func checkNotAtRest(t *testing.T, f impl.Frame, code int) {
	t.Helper()
	if s, got := impl.Balance(f); len(s.Shifts) != 0 || len(s.Forces) != 0 || got != code {
		t.Error("Balance", short(f), s, got, "not", code)
	}
	for _, limits := range [][]int{nil, allOf(1, len(f.Springs)), allOf(0, len(f.Springs)), allOf(1, len(f.Springs)+1), {least, greatest}} {
		want := code
		if len(limits) > impl.MaxList {
			want = impl.ErrLong
		}
		if number, share, got := impl.Weakest(f, limits); number != 0 || share != (impl.Frac{}) || got != want {
			t.Error("Weakest", short(f), short(limits), number, share, got, "not", want)
		}
	}
}

// checkIsFrame: no function says that it is none.
func checkIsFrame(t *testing.T, f impl.Frame) {
	t.Helper()
	if !impl.FrameOK(f) {
		t.Error("FrameOK is false of", short(f))
	}
	if _, code := impl.Balance(f); code == impl.ErrBad {
		t.Error("Balance is ErrBad of", short(f))
	}
}

func checkFrame(t *testing.T, f impl.Frame, right bool) {
	t.Helper()
	if right {
		checkIsFrame(t, f)
	} else {
		checkNoFrame(t, f)
	}
}

func TestBarLimits(t *testing.T) {
	if impl.MaxJoints != 6 || impl.MaxSprings != 20 {
		t.Error("limits", impl.MaxJoints, impl.MaxSprings)
	}
}

func TestFramesByHowMany(t *testing.T) {
	for nodes := -2; nodes <= 9; nodes++ {
		for loads := range 10 {
			f := frameOf(nodes, make([]int, loads), spring(0, -1, 1))
			checkFrame(t, f, nodes >= 1 && nodes <= 6 && loads == nodes)
			f.Springs = nil
			checkFrame(t, f, nodes >= 1 && nodes <= 6 && loads == nodes)
		}
	}
	for nodes := 1; nodes <= 6; nodes++ {
		for springs := range 25 {
			f := frameOf(nodes, make([]int, nodes), slices.Repeat([]impl.Spring{spring(0, -1, 1)}, springs)...)
			checkFrame(t, f, springs <= 20)
		}
	}
	for _, nodes := range []int{least, least + 1, -1 << 32, 1<<32 + 1, 1<<32 + 6, greatest - 1, greatest} {
		for _, loads := range []int{0, 1, 6} {
			checkNoFrame(t, frameOf(nodes, make([]int, loads), spring(0, -1, 1)))
			checkNoFrame(t, frameOf(nodes, make([]int, loads)))
		}
	}
	checkNoFrame(t, impl.Frame{})
}

// Lists within a frame are bounded by what a frame is: they are never ErrLong.
func TestFramesOfLongLists(t *testing.T) {
	for _, count := range []int{100, impl.MaxList, impl.MaxList + 1, 3 * impl.MaxList} {
		many := slices.Repeat([]impl.Spring{spring(0, -1, 1)}, count)
		checkNoFrame(t, frameOf(1, []int{0}, many...))
		checkNoFrame(t, frameOf(1, make([]int, count), spring(0, -1, 1)))
		checkNoFrame(t, frameOf(count, make([]int, count), spring(0, -1, 1)))
		checkNoFrame(t, frameOf(count, make([]int, count), many...))
	}
}

func TestFramesByTheEndsOfASpring(t *testing.T) {
	numbers := []int{least, least + 1, -1 << 32, -3, -2, -1, 0, 1, 2, 3, 4, 5, 6, 7, 1 << 32, 1<<32 + 1, greatest - 1, greatest}
	for nodes := 1; nodes <= 6; nodes++ {
		for _, a := range numbers {
			for _, b := range numbers {
				right := a >= 0 && a < nodes && b >= -1 && b < nodes && a != b
				for _, at := range []int{0, 1, 2} {
					springs := []impl.Spring{spring(0, -1, 1), spring(0, -1, 2), spring(0, -1, 3)}
					springs[at].A, springs[at].B = a, b
					checkFrame(t, frameOf(nodes, make([]int, nodes), springs...), right)
				}
			}
		}
	}
}

func TestFramesByStiffnessesAndLoads(t *testing.T) {
	for _, c := range []struct {
		number                int
		rightStiff, rightLoad bool
	}{
		{least, false, false}, {least + 1, false, false}, {-1 << 32, false, false}, {-1001, false, false}, {-1000, false, true}, {-999, false, true}, {-1, false, true}, {0, false, true},
		{1, true, true}, {2, true, true}, {999, true, true}, {1000, true, true}, {1001, false, false}, {1 << 32, false, false}, {1<<32 + 1, false, false}, {greatest - 1, false, false}, {greatest, false, false},
	} {
		for at := range 3 {
			springs, loads := []impl.Spring{spring(0, -1, 1), spring(1, 0, 2), spring(1, 2, 3)}, []int{5, 6, 7}
			springs[at].Stiff = c.number
			checkFrame(t, frameOf(3, loads, springs...), c.rightStiff)
			springs[at].Stiff, loads[at] = 1, c.number
			checkFrame(t, frameOf(3, loads, springs...), c.rightLoad)
		}
	}
	// several faults
	checkNoFrame(t, frameOf(7, []int{1001}, spring(-1, -2, 0)))
	checkNoFrame(t, frameOf(2, []int{greatest, least}, spring(0, 0, least), spring(greatest, greatest, 1)))
}

func TestFramesTold(t *testing.T) {
	for _, told := range []string{
		"| 0", "| 1000", "| -1000 1000", "0-g:1 | 0", "0-g:1000 | 0", "0-1:1 | 0 0", "1-0:1 | 0 0", "5-0:1 0-5:1000 | 0 0 0 0 0 0", "0-g:1 0-g:1 0-g:1 | 0", "0-1:1 0-1:1 1-0:1 | 0 0",
	} {
		checkIsFrame(t, frameTold(t, told))
	}
	for _, told := range []string{
		"|", "0-g:1 |", "| 1001", "| -1001", "0-g:0 | 0", "0-g:1001 | 0", "0-0:1 | 0", "1-1:1 | 0 0", "0-1:1 | 0", "1-g:1 | 0", "2-0:1 | 0 0", "0-2:1 | 0 0", "0--2:1 | 0", "-1-0:1 | 0", "g-g:1 | 0", "| 0 0 0 0 0 0 0",
		"0-g:1 1-0:1 1-1:1 | 0 0", "0-g:1 1-0:1 | 0 0 0 0 0 0 1001",
	} {
		checkNoFrame(t, frameTold(t, told))
	}
}
