package tests

import (
	"fmt"
	"runtime"
	"slices"
	"strings"
	"sync"
	"testing"
	"time"

	"loop.example/g00056/impl"
)

// checkHeld: a pause behind each tick, gone on with from there.
func checkHeld(t *testing.T, moves []impl.Move, most, gain int) []impl.Hold {
	t.Helper()
	ticks := checkDriven(t, moves, most, gain)
	_, holds := exactDrive(moves, most, gain)
	for n, want := range holds {
		got, code := impl.Pause(moves, most, gain, n)
		if got != want || code != impl.OK {
			t.Fatalf("Pause(%s, %d, %d, %d): %v %d, not %v", short(moves), most, gain, n, got, code, want)
		}
		rest, code := impl.Resume(moves, most, gain, got)
		if !slices.Equal(rest, ticks[n:]) || code != impl.OK {
			t.Fatalf("Resume(%s, %d, %d, %v): %s %d, not %s", short(moves), most, gain, got, short(rest), code, short(ticks[n:]))
		}
	}
	for _, n := range []int{least, least + 1, -2, -1, len(ticks) + 1, len(ticks) + 2, len(ticks) + 1<<32, greatest - 1, greatest} {
		if got, code := impl.Pause(moves, most, gain, n); got != (impl.Hold{}) || code != impl.ErrRange {
			t.Fatalf("Pause(%s, %d, %d, %d): %v %d", short(moves), most, gain, n, got, code)
		}
	}
	return holds
}

// checkHold: ErrRange of what Pause never answers, else what comes behind it.
func checkHold(t *testing.T, moves []impl.Move, most, gain int, ticks []impl.Tick, holds []impl.Hold, h impl.Hold) {
	t.Helper()
	want, wantCode := []impl.Tick(nil), impl.ErrRange
	if n := slices.Index(holds, h); n >= 0 {
		want, wantCode = ticks[n:], impl.OK
	}
	if got, code := impl.Resume(moves, most, gain, h); !slices.Equal(got, want) || code != wantCode {
		t.Fatalf("Resume(%s, %d, %d, %v): %s %d, not %s %d", short(moves), most, gain, h, short(got), code, short(want), wantCode)
	}
}

// checkHolds: the holds told in short, move:done:speed, from no tick on.
func checkHolds(t *testing.T, told string, most, gain int, want string) {
	t.Helper()
	var got []string
	for _, h := range checkHeld(t, movesOf(told), most, gain) {
		got = append(got, fmt.Sprintf("%d:%d:%d", h.Move, h.Done, h.Speed))
	}
	if strings.Join(got, " ") != want {
		t.Errorf("Pause of %q, %d, %d: %v, not %q", told, most, gain, got, want)
	}
}

func TestPausesTold(t *testing.T) {
	checkHolds(t, "f1,0,0", 10, 3, "0:0:0 0:3:3 0:9:6 0:15:6 0:19:4 1:0:0")
	checkHolds(t, "g1,0,0 g1,0,0 g2,0,0 g2,1,0", 9, 9, "0:0:0 0:5:5 0:10:5 0:15:5 2:0:5 2:5:5 2:10:5 2:15:5 3:0:0 3:5:5 3:10:5 3:15:5 4:0:0")
	// Within a way: ends of moves within ticks, and at the end of one.
	checkHolds(t, "f1,0,0 f3,0,0 f6,0,0", 1000, 40, "0:0:0 1:20:40 2:40:60 3:0:0")
	checkHolds(t, "f1,0,0 f2,0,0 f3,0,0 f4,0,0 f5,0,0 f6,0,0", 1000, 40, "0:0:0 2:0:40 5:0:60 6:0:0")
	checkHolds(t, "f1,0,0 f2,0,0 f3,0,0 f4,0,0 f5,0,0 f6,0,0", 1000, 39, "0:0:0 1:19:39 4:19:60 6:0:0")
	checkHolds(t, "f1,0,0 f2,0,0 f3,0,0 f4,0,0 f5,0,0 f6,0,0", 1000, 1000, "0:0:0 6:0:0")
	// At the end of a way: the axis, the direction, the kind changes.
	checkHolds(t, "f0,1,0 f0,1,1", 1000, 10, "0:0:0 0:10:10 1:0:0 1:10:10 2:0:0")
	checkHolds(t, "f0,0,2 f0,0,1", 1000, 20, "0:0:0 0:20:20 1:0:0 2:0:0")
	checkHolds(t, "f1,0,0 g2,0,0", 1000, 15, "0:0:0 0:15:15 1:0:0 1:15:15 2:0:0")
	// Moves that go nowhere: none of them is one on which a tick begins.
	checkHolds(t, "f0,0,0 g0,0,0 f1,0,0", 1000, 10, "2:0:0 2:10:10 3:0:0")
	checkHolds(t, "f1,0,0 g1,0,0 f1,0,0 f2,0,0", 1000, 10, "0:0:0 0:10:10 3:10:20 4:0:0")
	checkHolds(t, "f1,0,0 g1,0,0 f1,0,0 f2,0,0", 20, 20, "0:0:0 3:0:20 4:0:0")
	checkHolds(t, "f1,0,0 g1,0,0 f1,0,0 f1,1,0", 20, 20, "0:0:0 3:0:0 4:0:0")
	checkHolds(t, "f1,0,0 g1,0,0 f1,0,0", 20, 20, "0:0:0 3:0:0")
	checkHolds(t, "f0,0,0 f1,0,0 f1,0,0 f0,0,0 f0,0,0", 20, 20, "1:0:0 3:0:0 5:0:0")
	// Nothing but these, and no move at all.
	checkHolds(t, "f0,0,0", 5, 5, "1:0:0")
	checkHolds(t, "g0,0,0 f0,0,0 g0,0,0", 1, 1, "3:0:0")
	checkHolds(t, "", 1000, 1, "0:0:0")
}

func TestPausesOfLongLists(t *testing.T) {
	moves := shuttle(impl.MaxMoves)
	for _, n := range []int{0, 1, 2, 999, 1998, 1999, 2000} {
		want := impl.Hold{Move: n}
		if got, code := impl.Pause(moves, 20, 20, n); got != want || code != impl.OK {
			t.Error("Pause", n, got, code)
		}
		if rest, code := impl.Resume(moves, 20, 20, want); len(rest) != 2000-n || code != impl.OK {
			t.Error("Resume", n, len(rest), code)
		}
	}
	nowhere := make([]impl.Move, impl.MaxMoves)
	if got, code := impl.Pause(nowhere, 1, 1, 0); got != (impl.Hold{Move: 2000}) || code != impl.OK {
		t.Error("Pause of moves that go nowhere", got, code)
	}
	for _, move := range []int{0, 1, 1999, 2001} {
		if rest, code := impl.Resume(nowhere, 1, 1, impl.Hold{Move: move}); len(rest) != 0 || code != impl.ErrRange {
			t.Error("Resume of moves that go nowhere", move, short(rest), code)
		}
	}
}

// Each hold that is near: those that Pause answers are taken, and no other.
func TestResumeOfAllNearHolds(t *testing.T) {
	for _, c := range []struct {
		moves      string
		most, gain int
	}{{"g0,0,0 g1,0,0 f1,0,0 g2,0,0 f2,0,0", 9, 3}, {"f1,0,0 f1,1,0 f1,1,0", 11, 7}, {"f2,0,0 f0,0,0", 12, 12}, {"f0,0,0", 2, 2}, {"", 2, 2}} {
		moves := movesOf(c.moves)
		ticks := checkDriven(t, moves, c.most, c.gain)
		_, holds := exactDrive(moves, c.most, c.gain)
		for move := -1; move <= len(moves)+2; move++ {
			for done := -1; done <= 41; done++ {
				for speed := -1; speed <= c.most+1; speed++ {
					checkHold(t, moves, c.most, c.gain, ticks, holds, impl.Hold{Move: move, Done: done, Speed: speed})
				}
			}
		}
		for _, number := range []int{least, least + 1, -1 << 32, 1 << 32, greatest - 1, greatest} {
			for _, h := range slices.Concat(holds, []impl.Hold{{}}) {
				for _, far := range []impl.Hold{{Move: number, Done: h.Done, Speed: h.Speed}, {Move: h.Move, Done: number, Speed: h.Speed}, {Move: h.Move, Done: h.Done, Speed: number}, {Move: h.Move + number, Done: h.Done, Speed: h.Speed}, {Move: h.Move, Done: h.Done + number, Speed: h.Speed + number}, {Move: number, Done: number, Speed: number}} {
					checkHold(t, moves, c.most, c.gain, ticks, holds, far)
				}
			}
		}
	}
}

func TestControllerAnswersAreNewMemory(t *testing.T) {
	for _, moves := range [][]impl.Move{nil, {}, movesOf("f0,0,0"), movesOf("f1,0,0 g1,0,0 f2,0,0 f2,3,0"), movesOf("f1,1,1"), movesOf("f25,0,0"), shuttle(1001), make([]impl.Move, 2001), make([]impl.Move, 4097)} {
		behind := movesOf("f77,77,77 g88,88,88")
		array := append(slices.Clone(moves), behind...)
		given := array[:len(moves)]
		all := func() string {
			ticks, code := impl.Control(given, 2, 1)
			hold, holdCode := impl.Pause(given, 2, 1, 1)
			rest, restCode := impl.Resume(given, 2, 1, hold)
			again, againCode := impl.Resume(given, 2, 1, impl.Hold{})
			told := fmt.Sprint(ticks, code, hold, holdCode, rest, restCode, again, againCode)
			for _, list := range [][]impl.Tick{ticks, rest, again} {
				before := fmt.Sprint(ticks, rest, again)
				kept := slices.Clone(list)
				for i := range list[:cap(list)] {
					list[:cap(list)][i] = impl.Tick{X: 99, Y: 99, Z: 99, Speed: 99}
				}
				copy(list, kept)
				if fmt.Sprint(ticks, rest, again) != before {
					t.Error("lists share memory", short(moves))
				}
			}
			for i := range ticks {
				ticks[i] = impl.Tick{}
			}
			return told
		}
		first := all()
		if second := all(); second != first {
			t.Error("answers share memory", short(moves), short(first), short(second))
		}
		if !slices.Equal(array, append(slices.Clone(moves), behind...)) {
			t.Error("an argument was changed", short(array))
		}
	}
}

// Whatever is answered, nothing of a call goes on behind it.
func TestNothingGoesOnBehindACall(t *testing.T) {
	before := runtime.NumGoroutine()
	for range 5 {
		for _, call := range controllerCalls() {
			call()
		}
	}
	for wait := 0; runtime.NumGoroutine() > before; wait++ {
		if wait == 1000 {
			t.Fatal(runtime.NumGoroutine()-before, "go on behind their calls")
		}
		time.Sleep(time.Millisecond)
	}
}

// Calls side by side answer what each answers alone.
func TestControllersSideBySide(t *testing.T) {
	calls := controllerCalls()
	first := make([]string, len(calls))
	for i, call := range calls {
		first[i] = call()
	}
	var group sync.WaitGroup
	for worker := range 8 {
		group.Go(func() {
			for i := range calls {
				at := (i*7 + worker) % len(calls)
				if got := calls[at](); got != first[at] {
					t.Errorf("call %d: %s alone, %s beside others", at, short(first[at]), short(got))
				}
			}
		})
	}
	group.Wait()
}

// controllerCalls: calls of every function of the layer, right, at an edge and wrong.
func controllerCalls() []func() string {
	var calls []func() string
	tell := func(call func() string) { calls = append(calls, call) }
	lists := [][]impl.Move{nil, movesOf("g0,0,0"), movesOf("f1,0,0 g1,0,0 f2,0,0 f2,3,0 g2,3,24"), movesOf("f1,0,0 f1,1,1"), movesOf("f0,0,25"), {to(least, greatest, 0)}, shuttle(1001), make([]impl.Move, 2001), make([]impl.Move, 4097)}
	for _, moves := range lists {
		for _, pair := range [][2]int{{1, 1}, {10, 3}, {1000, 1000}, {1001, 1}, {0, 0}, {5, 6}, {least, greatest}} {
			tell(func() string { return fmt.Sprint(impl.Control(moves, pair[0], pair[1])) })
			for _, n := range []int{least, -1, 0, 1, 5, greatest} {
				tell(func() string { return fmt.Sprint(impl.Pause(moves, pair[0], pair[1], n)) })
			}
			for _, h := range []impl.Hold{{}, {Done: 3, Speed: 3}, {Move: 5}, {Move: least, Done: greatest, Speed: -1}} {
				tell(func() string { return fmt.Sprint(impl.Resume(moves, pair[0], pair[1], h)) })
			}
		}
	}
	return calls
}
