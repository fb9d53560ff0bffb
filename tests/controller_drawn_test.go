package tests

import (
	"math/rand"
	"slices"
	"testing"

	"loop.example/g00056/impl"
)

// drivenMoves draws moves along one axis each, of which many go on, and some
// go nowhere.
func drivenMoves(draw *rand.Rand, count int) []impl.Move {
	var moves []impl.Move
	at, axis := impl.Move{Fast: draw.Intn(2) == 0}, draw.Intn(3)
	for range count {
		if draw.Intn(3) == 0 {
			axis = draw.Intn(3)
		}
		if draw.Intn(5) == 0 {
			at.Fast = !at.Fast
		}
		number := []*int{&at.X, &at.Y, &at.Z}[axis]
		switch draw.Intn(8) {
		case 0:
			*number = draw.Intn(25)
		case 1:
			*number = 24 * draw.Intn(2)
		case 2, 3, 4:
			*number = min(24, *number+1+draw.Intn(3))
		case 5, 6:
			*number = max(0, *number-1-draw.Intn(3))
		}
		moves = append(moves, at)
	}
	return moves
}

// drawnSpeeds: a limit and a gain, small ones more often; or such that ticks
// end where moves do.
func drawnSpeeds(draw *rand.Rand) (int, int) {
	if draw.Intn(3) == 0 {
		even := []int{2, 4, 5, 10, 20, 40}[draw.Intn(6)]
		return even * (1 + draw.Intn(2)), even
	}
	most := 1 + draw.Intn([]int{5, 30, 200, 1000}[draw.Intn(4)])
	return most, 1 + draw.Intn(1+draw.Intn(most))
}

func TestDrawnMovesDriven(t *testing.T) {
	draw := rand.New(rand.NewSource(1401))
	seen := map[string]int{}
	for range 1500 {
		moves := drivenMoves(draw, draw.Intn(60))
		most, gain := drawnSpeeds(draw)
		ticks := checkDriven(t, moves, most, gain)
		countDriven(seen, moves, ticks, most)
		checkAxesOver(t, moves, most, gain, ticks)
		checkInParts(t, draw, moves, most, gain, ticks)
		checkFirstWays(t, moves, most, gain, ticks)
	}
	for _, what := range []string{"at the limit", "below", "goes on", "turns back", "another axis", "another kind", "nowhere", "ends within a tick"} {
		if seen[what] < 1000 {
			t.Error("the moves are poor", what, seen)
		}
	}
}

func countDriven(seen map[string]int, moves []impl.Move, ticks []impl.Tick, most int) {
	hairs, done := hairsOf(moves), 0
	somewhere := map[int]int{}
	for i, h := range hairs {
		somewhere[h.move]++
		switch {
		case i == 0 || h.done > 0:
		case h.goesOn(hairs[i-1]):
			seen["goes on"]++
		case h.axis != hairs[i-1].axis:
			seen["another axis"]++
		case h.sign != hairs[i-1].sign:
			seen["turns back"]++
		default:
			seen["another kind"]++
		}
	}
	seen["nowhere"] += len(moves) - len(somewhere)
	for _, tick := range ticks {
		if tick.Speed == hairs[done].limit(most) {
			seen["at the limit"]++
		} else {
			seen["below"]++
		}
		if hairs[done].move != hairs[done+tick.Speed-1].move {
			seen["ends within a tick"]++
		}
		done += tick.Speed
	}
}

// checkAxesOver: with X, Y and Z of all things changed over nothing else is other.
func checkAxesOver(t *testing.T, moves []impl.Move, most, gain int, ticks []impl.Tick) {
	t.Helper()
	over, want := slices.Clone(moves), slices.Clone(ticks)
	for i, m := range moves {
		over[i] = impl.Move{Fast: m.Fast, X: m.Y, Y: m.Z, Z: m.X}
	}
	for i, tick := range ticks {
		want[i] = impl.Tick{X: tick.Y, Y: tick.Z, Z: tick.X, Speed: tick.Speed}
	}
	if got, code := impl.Control(over, most, gain); code != impl.OK || !slices.Equal(got, want) {
		t.Fatalf("Control(%s, %d, %d): %s %d, axes over %s", short(moves), most, gain, short(ticks), code, short(got))
	}
}

// checkInParts: made in parts, with moves that go nowhere put between, the ticks
// are the same.
func checkInParts(t *testing.T, draw *rand.Rand, moves []impl.Move, most, gain int, ticks []impl.Tick) {
	t.Helper()
	var parts []impl.Move
	at := [3]int{}
	goTo := func(kind bool, place [3]int) {
		parts = append(parts, impl.Move{Fast: kind, X: place[0], Y: place[1], Z: place[2]})
		at = place
	}
	for _, m := range moves {
		place := [3]int{m.X, m.Y, m.Z}
		for draw.Intn(3) > 0 {
			if next, ok := onTheWay(draw, at, place); ok {
				goTo(m.Fast, next)
			} else {
				goTo(draw.Intn(2) == 0, at)
			}
		}
		goTo(m.Fast, place)
	}
	if got, code := impl.Control(parts, most, gain); code != impl.OK || !slices.Equal(got, ticks) {
		t.Fatalf("Control(%s, %d, %d): %s, in parts %s: %s %d", short(moves), most, gain, short(ticks), short(parts), short(got), code)
	}
}

// checkFirstWays: what comes behind a way's end changes nothing of it.
func checkFirstWays(t *testing.T, moves []impl.Move, most, gain int, ticks []impl.Tick) {
	t.Helper()
	hairs, done := hairsOf(moves), 0
	for n, tick := range ticks {
		done += tick.Speed
		if done < len(hairs) && hairs[done].goesOn(hairs[done-1]) || n%17 != 0 {
			continue
		}
		first := moves[:hairs[done-1].move+1]
		if got, code := impl.Control(first, most, gain); code != impl.OK || !slices.Equal(got, ticks[:n+1]) {
			t.Fatalf("Control(%s, %d, %d): %s %d, not %s", short(first), most, gain, short(got), code, short(ticks[:n+1]))
		}
	}
}

func TestDrawnMovesHeld(t *testing.T) {
	draw := rand.New(rand.NewSource(1402))
	none, some, atEnds := 0, 0, 0
	for range 800 {
		moves := drivenMoves(draw, draw.Intn(12))
		most, gain := drawnSpeeds(draw)
		ticks, _ := exactDrive(moves, most, gain)
		if len(ticks) > 150 {
			continue
		}
		holds := checkHeld(t, moves, most, gain)
		for _, h := range holds {
			if h.Done == 0 && h.Speed > 0 {
				atEnds++
			}
			i := draw.Intn(6)
			*[]*int{&h.Move, &h.Done, &h.Speed}[i/2] += 2*(i%2) - 1
			checkHold(t, moves, most, gain, ticks, holds, h)
			if slices.Contains(holds, h) {
				some++
			} else {
				none++
			}
		}
	}
	if none < 5000 || some < 20 || atEnds < 150 {
		t.Error("the holds are poor", none, some, atEnds)
	}
}

// Each list of up to four near moves, paused behind each tick.
func TestAllNearMovesHeld(t *testing.T) {
	near := movesOf("f0,0,0 f1,0,0 f2,0,0 g0,0,0 g1,0,0 g2,0,0 f1,1,0 g1,1,0")
	lists := [][]impl.Move{nil}
	counts := map[int]int{}
	for first := 0; first < len(lists); first++ {
		moves := lists[first]
		_, code := impl.Control(moves, 16, 9)
		counts[code]++
		if code == impl.ErrState {
			checkUndriven(t, moves, 16, 9, impl.ErrState)
			continue
		}
		checkHeld(t, moves, 16, 9)
		if len(moves) < 4 {
			for _, m := range near {
				lists = append(lists, append(slices.Clone(moves), m))
			}
		}
	}
	if counts[impl.OK] < 1000 || counts[impl.ErrState] < 300 || len(counts) != 2 {
		t.Error("the moves are poor", counts)
	}
}

// Moves that end beyond space, or change several axes, or both in any order.
func TestDrawnMovesThatCanNotBe(t *testing.T) {
	draw := rand.New(rand.NewSource(1403))
	counts := map[int]int{}
	for range 3000 {
		moves := drivenMoves(draw, 1+draw.Intn(8))
		for range draw.Intn(3) {
			m := &moves[draw.Intn(len(moves))]
			*[]*int{&m.X, &m.Y, &m.Z}[draw.Intn(3)] = draw.Intn(30) - 2
		}
		want := exactDrivingCode(moves)
		counts[want]++
		if want == impl.OK {
			checkDriven(t, moves, 1000, 1)
			continue
		}
		checkUndriven(t, moves, 1000, 1, want)
	}
	if counts[impl.OK] < 500 || counts[impl.ErrBad] < 300 || counts[impl.ErrState] < 500 {
		t.Error("the moves are poor", counts)
	}
}

// exactDrivingCode is for few moves, a right limit and a right gain.
func exactDrivingCode(moves []impl.Move) int {
	was, code := [3]int{}, impl.OK
	for _, m := range moves {
		others := 0
		for axis, number := range [3]int{m.X, m.Y, m.Z} {
			if number < 0 || number > 24 {
				return impl.ErrBad
			}
			if number != was[axis] {
				others++
			}
			was[axis] = number
		}
		if others > 1 {
			code = impl.ErrState
		}
	}
	return code
}

// A strategy's moves are driven to their end, each of them.
func TestStrategiesDriven(t *testing.T) {
	draw := rand.New(rand.NewSource(1404))
	whole := 0
	for range 150 {
		stock, part := drawnStock(draw, 1+draw.Intn(5), 1+draw.Intn(5))
		moves, code := impl.Zigzag(stock, part, draw.Intn(4), 3+draw.Intn(22))
		if code != impl.OK {
			continue
		}
		whole++
		ticks := checkDriven(t, moves, 300+draw.Intn(701), 100+draw.Intn(201))
		if last := moves[len(moves)-1]; len(ticks) == 0 || ticks[len(ticks)-1] != tickAt([3]int{20 * last.X, 20 * last.Y, 20 * last.Z}, ticks[len(ticks)-1].Speed) {
			t.Fatal("Control", short(moves), "ends elsewhere than at", last)
		}
	}
	if whole < 100 {
		t.Error("the strategies are poor", whole)
	}
}
