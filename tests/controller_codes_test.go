package tests

import (
	"slices"
	"testing"

	"loop.example/g00056/impl"
)

// checkUndriven: every function of the layer answers that code and nothing else,
// whatever it is asked for beside the moves.
func checkUndriven(t *testing.T, moves []impl.Move, most, gain, code int) {
	t.Helper()
	if ticks, got := impl.Control(moves, most, gain); len(ticks) != 0 || got != code {
		t.Errorf("Control(%d moves: %s, %d, %d): %s %d, not %d", len(moves), short(moves), most, gain, short(ticks), got, code)
	}
	for _, n := range []int{least, -1, 0, 1, greatest} {
		if hold, got := impl.Pause(moves, most, gain, n); hold != (impl.Hold{}) || got != code {
			t.Errorf("Pause(%d moves: %s, %d, %d, %d): %v %d, not %d", len(moves), short(moves), most, gain, n, hold, got, code)
		}
	}
	for _, h := range []impl.Hold{{}, {Move: len(moves)}, {Move: -1}, {Move: least, Done: greatest, Speed: least}} {
		if ticks, got := impl.Resume(moves, most, gain, h); len(ticks) != 0 || got != code {
			t.Errorf("Resume(%d moves: %s, %d, %d, %v): %s %d, not %d", len(moves), short(moves), most, gain, h, short(ticks), got, code)
		}
	}
}

func TestControlByLimitAndGain(t *testing.T) {
	lists := [][]impl.Move{nil, movesOf("f0,0,0"), movesOf("f1,0,0 g1,2,0")}
	for _, moves := range lists {
		for _, pair := range [][2]int{{1, 1}, {2, 1}, {2, 2}, {999, 1}, {999, 999}, {1000, 1}, {1000, 2}, {1000, 999}, {1000, 1000}} {
			checkDriven(t, moves, pair[0], pair[1])
		}
		for _, most := range []int{least, least + 1, -1 << 32, -1000, -1, 0, 1001, 1002, 2000, 1<<32 + 5, greatest - 1, greatest} {
			for _, gain := range []int{least, -1, 0, 1, 5, 1000, most, greatest} {
				checkUndriven(t, moves, most, gain, impl.ErrBad)
			}
		}
		for _, most := range []int{1, 2, 5, 999, 1000} {
			for _, gain := range []int{least, least + 1, -1 << 32, -most, -1, 0, most + 1, most + 2, 1001, 1<<32 + 1, greatest - 1, greatest} {
				checkUndriven(t, moves, most, gain, impl.ErrBad)
			}
		}
	}
}

// shuttle: so many moves to X 1 and back again, each a way of its own.
func shuttle(count int) []impl.Move {
	moves := make([]impl.Move, count)
	for i := range moves {
		moves[i] = fast((i+1)%2, 0, 0)
	}
	return moves
}

func TestControlByTheCountOfMoves(t *testing.T) {
	for _, count := range []int{1, 1999, 2000} {
		if got := checkDriven(t, shuttle(count), 1000, 1000); len(got) != count || got[count-1] != (impl.Tick{X: 20 * (count % 2), Speed: 20}) {
			t.Error("Control of", count, "moves:", len(got))
		}
		if got := checkDriven(t, make([]impl.Move, count), 1, 1); len(got) != 0 {
			t.Error("Control of", count, "moves that go nowhere:", len(got))
		}
		// A move at the very end.
		if got := checkDriven(t, append(make([]impl.Move, count-1), to(0, 0, 1)), 40, 40); !slices.Equal(got, []impl.Tick{{Z: 20, Speed: 20}}) {
			t.Error("Control of", count, "moves, the last one of which goes somewhere:", got)
		}
	}
	for _, count := range []int{2001, 2002, 4095, 4096} {
		checkUndriven(t, shuttle(count), 1000, 1000, impl.ErrMany)
		checkUndriven(t, make([]impl.Move, count), 1, 1, impl.ErrMany)
	}
	for _, count := range []int{4097, 4098, 100000} {
		checkUndriven(t, shuttle(count), 1000, 1000, impl.ErrLong)
		checkUndriven(t, make([]impl.Move, count), 1, 1, impl.ErrLong)
	}
}

func TestControlByItsPlaces(t *testing.T) {
	ahead := movesOf("f24,0,0 f24,24,0 g24,24,24 g24,24,0 f0,24,0 f0,0,0")
	checkDriven(t, ahead, 77, 5)
	for _, n := range []int{-1, 25, -2, 26, 24 + 256, least, least + 1, -1 << 32, 1 << 32, greatest - 1, greatest} {
		for _, move := range axisMoves(n) {
			for place := range len(ahead) + 1 {
				checkUndriven(t, slices.Insert(slices.Clone(ahead), place, move), 77, 5, impl.ErrBad)
			}
			checkUndriven(t, []impl.Move{move}, 1, 1, impl.ErrBad)
		}
	}
	// From one end of the whole numbers to the other, and back.
	checkUndriven(t, []impl.Move{to(least, 0, 0), to(greatest, 0, 0), to(least, least, least)}, 5, 5, impl.ErrBad)
	for _, n := range []int{0, 1, 23, 24} {
		for _, move := range axisMoves(n)[:6] {
			checkDriven(t, []impl.Move{move}, 9, 4)
			checkDriven(t, []impl.Move{move, to(0, 0, 0)}, 9, 4)
		}
	}
}

func TestControlByTheAxesOfAMove(t *testing.T) {
	ahead := movesOf("f1,0,0 f1,1,0 g1,1,1 g1,1,1 f1,1,3")
	checkDriven(t, ahead, 9, 4)
	for _, way := range [][3]int{{1, 1, 0}, {1, 0, 1}, {0, 1, 1}, {1, 1, 1}, {4, 9, 0}, {20, 20, 20}} {
		for i := range len(ahead) + 1 {
			from := impl.Move{}
			if i > 0 {
				from = ahead[i-1]
			}
			wrong := to(from.X+way[0], from.Y+way[1], from.Z+way[2])
			for _, wrong.Fast = range []bool{false, true} {
				checkUndriven(t, append(slices.Clone(ahead[:i]), wrong), 9, 4, impl.ErrState)
				// What stands behind it can be, or not.
				checkUndriven(t, append(slices.Clone(ahead[:i]), wrong, wrong), 9, 4, impl.ErrState)
				checkUndriven(t, append(slices.Clone(ahead[:i]), wrong, to(24, 24, 24), to(0, 0, 0)), 9, 4, impl.ErrState)
			}
		}
	}
	// To lower numbers, and one up and one down.
	for _, told := range []string{"f0,0,5 f0,5,5 f0,4,4", "f5,0,0 f4,1,0", "f0,5,0 f1,5,0 f0,5,1", "f1,0,0 f0,1,0 f1,1,0", "f0,0,1 f1,1,0"} {
		checkUndriven(t, movesOf(told), 9, 4, impl.ErrState)
	}
	// A move that would be right behind the one ahead of the last, but is not behind the last.
	checkUndriven(t, movesOf("f1,0,0 f1,2,0 f2,0,0"), 9, 4, impl.ErrState)
}

// mixed: so many Fast moves to X 1 or back and so many that are not.
func mixed(fasts, others int) []impl.Move {
	moves := shuttle(fasts + others)
	for i := range moves {
		moves[i].Fast = i < fasts
	}
	return moves
}

// With most 2 and gain 1 a Fast way of a unit has 11 ticks, another one 20.
func TestControlByTheCountOfTicks(t *testing.T) {
	for _, c := range []struct{ fasts, others, ticks int }{{0, 1000, 20000}, {20, 989, 20000}, {9, 995, 19999}, {1800, 10, 20000}, {1820, 0, 20020}, {11, 994, 20001}, {0, 1001, 20020}, {2000, 0, 22000}, {31, 983, 20001}, {1811, 4, 20001}} {
		moves := mixed(c.fasts, c.others)
		if 11*c.fasts+20*c.others != c.ticks {
			t.Error("told wrongly", c)
		}
		if c.ticks > impl.MaxTicks {
			checkUndriven(t, moves, 2, 1, impl.ErrFull)
			continue
		}
		if got := checkDriven(t, moves, 2, 1); len(got) != c.ticks {
			t.Error("Control:", len(got), "ticks, not", c.ticks)
		}
		last := impl.Hold{Move: len(moves)}
		if hold, code := impl.Pause(moves, 2, 1, c.ticks); hold != last || code != impl.OK {
			t.Error("Pause behind all ticks", hold, code)
		}
		if hold, code := impl.Pause(moves, 2, 1, c.ticks+1); hold != (impl.Hold{}) || code != impl.ErrRange {
			t.Error("Pause one beyond all ticks", hold, code)
		}
		if ticks, code := impl.Resume(moves, 2, 1, last); len(ticks) != 0 || code != impl.OK {
			t.Error("Resume behind all ticks", short(ticks), code)
		}
	}
	// As many as there can be at all: 2000 ways of 480 ticks.
	whole := make([]impl.Move, impl.MaxMoves)
	for i := range whole {
		whole[i] = to(0, 24*((i+1)%2), 0)
	}
	checkUndriven(t, whole, 1, 1, impl.ErrFull)
	checkUndriven(t, whole, 2, 2, impl.ErrFull)
	if got := checkDriven(t, whole, 960, 960); len(got) != 2000 {
		t.Error("Control of the longest ways:", len(got))
	}
}

// ErrLong, ErrBad of most and gain, ErrMany, ErrBad of a place, ErrState,
// ErrFull: of several faults the first of these, wherever it stands in the list.
func TestControlCodesByTheirOrder(t *testing.T) {
	place, turned := to(0, 0, 25), to(7, 7, 7)
	wrongs := [][]impl.Move{{place}, {turned}, {place, turned}, {turned, place}, {turned, place, turned}}
	with := func(count int, wrong []impl.Move, first bool) []impl.Move {
		rest := shuttle(count - len(wrong))
		if first {
			return slices.Concat(wrong, rest)
		}
		return slices.Concat(rest, wrong)
	}
	for _, first := range []bool{true, false} {
		for _, wrong := range wrongs {
			for _, pair := range [][2]int{{0, 0}, {1001, 1}, {5, 6}, {5, 0}, {least, greatest}} {
				for _, count := range []int{len(wrong), 2000, 2001, 4096} {
					checkUndriven(t, with(count, wrong, first), pair[0], pair[1], impl.ErrBad)
				}
				checkUndriven(t, with(4097, wrong, first), pair[0], pair[1], impl.ErrLong)
			}
			checkUndriven(t, with(4097, wrong, first), 5, 5, impl.ErrLong)
			checkUndriven(t, with(2001, wrong, first), 5, 5, impl.ErrMany)
			checkUndriven(t, with(4096, wrong, first), 5, 5, impl.ErrMany)
			want := impl.ErrBad
			if !slices.Contains(wrong, place) {
				want = impl.ErrState
			}
			// The 1001 moves alone would be too many ticks, the 12 would not.
			for _, count := range []int{12, 1001 + len(wrong), 2000} {
				checkUndriven(t, with(count, wrong, first), 1, 1, want)
			}
		}
	}
	checkUndriven(t, shuttle(1001), 1, 1, impl.ErrFull)
	checkUndriven(t, shuttle(1001), 0, 1, impl.ErrBad)
	checkUndriven(t, shuttle(2001), 1, 1, impl.ErrMany)
}
