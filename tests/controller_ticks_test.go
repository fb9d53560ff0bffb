package tests

import (
	"fmt"
	"slices"
	"strconv"
	"strings"
	"testing"

	"loop.example/g00056/impl"
)

// hair: one of a move, where it ends, and what the hairs of a way have in common.
type hair struct {
	move, done int
	end        [3]int
	axis, sign int
	fast       bool
}

// hairsOf goes through the moves hair by hair; one that goes nowhere has none.
func hairsOf(moves []impl.Move) []hair {
	var hairs []hair
	at := [3]int{}
	for number, m := range moves {
		done := 0
		for axis, unit := range [3]int{m.X, m.Y, m.Z} {
			for at[axis] != 20*unit {
				sign := 1
				if at[axis] > 20*unit {
					sign = -1
				}
				at[axis] += sign
				hairs = append(hairs, hair{number, done, at, axis, sign, m.Fast})
				done++
			}
		}
	}
	return hairs
}

func (h hair) goesOn(other hair) bool {
	return h.axis == other.axis && h.sign == other.sign && h.fast == other.fast
}

func (h hair) limit(most int) int {
	if h.fast {
		return most
	}
	return most/2 + most%2
}

// toStop: v + (v - gain) + (v - 2 gain) + .., as long as these are above 0.
func toStop(v, gain int) int {
	if v <= 0 {
		return 0
	}
	return v + toStop(v-gain, gain)
}

// exactSpeed tries each speed that there is.
func exactSpeed(was, limit, gain, left int) int {
	for v := 1000; v >= 0; v-- {
		if v <= limit && v <= was+gain && v >= was-gain && toStop(v, gain) <= left {
			return v
		}
	}
	panic(fmt.Sprint("no speed behind ", was, limit, gain, left))
}

func tickAt(place [3]int, speed int) impl.Tick {
	return impl.Tick{X: place[0], Y: place[1], Z: place[2], Speed: speed}
}

// exactDrive: the ticks, and the holds ahead of each and behind the last one.
func exactDrive(moves []impl.Move, most, gain int) ([]impl.Tick, []impl.Hold) {
	var ticks []impl.Tick
	var holds []impl.Hold
	hairs := hairsOf(moves)
	for done := 0; done < len(hairs); {
		end, speed := done+1, 0
		for end < len(hairs) && hairs[end].goesOn(hairs[done]) {
			end++
		}
		for done < end {
			holds = append(holds, impl.Hold{Move: hairs[done].move, Done: hairs[done].done, Speed: speed})
			speed = exactSpeed(speed, hairs[done].limit(most), gain, end-done)
			done += speed
			ticks = append(ticks, tickAt(hairs[done-1].end, speed))
		}
	}
	return ticks, append(holds, impl.Hold{Move: len(moves)})
}

// checkDriven: the ticks that the words lead to, and all that is promised of them.
func checkDriven(t *testing.T, moves []impl.Move, most, gain int) []impl.Tick {
	t.Helper()
	got, code := impl.Control(moves, most, gain)
	if want, _ := exactDrive(moves, most, gain); code != impl.OK || !slices.Equal(got, want) {
		t.Fatalf("Control(%s, %d, %d): %s %d, not %s", short(moves), most, gain, short(got), code, short(want))
	}
	checkRide(t, moves, most, gain, got)
	return got
}

// checkRide goes along the ticks hair by hair: they are those of the moves, none
// more and none less, at speeds that may be.
func checkRide(t *testing.T, moves []impl.Move, most, gain int, ticks []impl.Tick) {
	t.Helper()
	fail := func(what string, n int) {
		t.Helper()
		t.Fatalf("Control(%s, %d, %d): %s, %s at %d", short(moves), most, gain, short(ticks), what, n)
	}
	hairs, done, was := hairsOf(moves), 0, 0
	for n, tick := range ticks {
		if tick.Speed < 1 || done+tick.Speed > len(hairs) {
			fail("no such way", n)
		}
		for _, h := range hairs[done : done+tick.Speed] {
			if !h.goesOn(hairs[done]) {
				fail("a corner cut", n)
			}
			if tick.Speed > h.limit(most) {
				fail("too fast", n)
			}
		}
		if done > 0 && !hairs[done].goesOn(hairs[done-1]) {
			if was > gain {
				fail("no stop", n)
			}
			was = 0
		}
		if tick.Speed-was > gain || was-tick.Speed > gain {
			fail("another speed too soon", n)
		}
		done, was = done+tick.Speed, tick.Speed
		if tick != tickAt(hairs[done-1].end, tick.Speed) {
			fail("another place", n)
		}
	}
	if done != len(hairs) || was > gain {
		fail("no end", len(ticks))
	}
}

// checkSpeeds: of moves told in short the speeds, with a bar between ways.
func checkSpeeds(t *testing.T, told string, most, gain int, speeds string) {
	t.Helper()
	moves := movesOf(told)
	ticks := checkDriven(t, moves, most, gain)
	n := 0
	for _, way := range strings.Split(speeds, "|") {
		was := 0
		for _, speed := range strings.Fields(way) {
			v, _ := strconv.Atoi(speed)
			hold, code := impl.Pause(moves, most, gain, n)
			if n >= len(ticks) || ticks[n].Speed != v || code != impl.OK || hold.Speed != was {
				t.Errorf("Control(%q, %d, %d): %s, not %q at %d; %v %d", told, most, gain, short(ticks), speeds, n, hold, code)
				return
			}
			was = v
			n++
		}
	}
	if n != len(ticks) {
		t.Errorf("Control(%q, %d, %d): %s, not %q", told, most, gain, short(ticks), speeds)
	}
}

func times(speed, count int) string { return strings.Repeat(fmt.Sprint(speed, " "), count) }

func TestControllerLimits(t *testing.T) {
	if impl.Hairs != 20 || impl.MaxTicks != 20000 {
		t.Error("limits", impl.Hairs, impl.MaxTicks)
	}
}

// The places and the speeds, both by hand.
func TestTicksTold(t *testing.T) {
	for _, c := range []struct {
		moves      string
		most, gain int
		ticks      []impl.Tick
	}{
		{"", 1, 1, nil},
		{"f1,0,0", 10, 3, []impl.Tick{{X: 3, Speed: 3}, {X: 9, Speed: 6}, {X: 15, Speed: 6}, {X: 19, Speed: 4}, {X: 20, Speed: 1}}},
		{"f0,1,0 g0,1,1", 20, 20, []impl.Tick{{Y: 20, Speed: 20}, {Y: 20, Z: 10, Speed: 10}, {Y: 20, Z: 20, Speed: 10}}},
		{"f0,0,2 f0,0,1 f1,0,1", 30, 20, []impl.Tick{{Z: 20, Speed: 20}, {Z: 40, Speed: 20}, {Z: 20, Speed: 20}, {X: 20, Z: 20, Speed: 20}}},
		{"g0,1,0 g0,2,0 g0,0,0", 1000, 15, []impl.Tick{{Y: 15, Speed: 15}, {Y: 35, Speed: 20}, {Y: 40, Speed: 5}, {Y: 25, Speed: 15}, {Y: 5, Speed: 20}, {Speed: 5}}},
		{"f0,0,24 f24,0,24 f24,24,24 g24,24,0", 1000, 1000, []impl.Tick{{Z: 480, Speed: 480}, {X: 480, Z: 480, Speed: 480}, {X: 480, Y: 480, Z: 480, Speed: 480}, {X: 480, Y: 480, Speed: 480}}},
	} {
		if got := checkDriven(t, movesOf(c.moves), c.most, c.gain); !slices.Equal(got, c.ticks) {
			t.Errorf("Control(%q, %d, %d): %v, not %v", c.moves, c.most, c.gain, got, c.ticks)
		}
	}
}

// A way of twenty hairs: 5 10 5 is just as the braking wants it; with a limit or
// a gain of one hair more or less something is left, or lacks.
func TestSpeedsOnAShortWay(t *testing.T) {
	for _, c := range []struct {
		most, gain int
		speeds     string
	}{
		{1, 1, times(1, 20)}, {2, 1, "1 " + times(2, 9) + "1"}, {2, 2, times(2, 10)}, {3, 3, "3 3 3 3 3 3 2"}, {4, 1, "1 2 3 4 4 3 2 1"}, {3, 1, "1 2 3 3 3 3 2 2 1"}, {5, 1, "1 2 3 4 4 3 2 1"}, {1000, 1, "1 2 3 4 4 3 2 1"},
		{1000, 2, "2 4 6 4 3 1"}, {10, 3, "3 6 6 4 1"}, {1000, 3, "3 6 6 4 1"}, {7, 4, "4 7 6 3"}, {1000, 4, "4 8 6 2"},
		{5, 5, "5 5 5 5"}, {6, 5, "5 6 6 3"}, {9, 5, "5 9 5 1"}, {10, 5, "5 10 5"}, {11, 5, "5 10 5"}, {1000, 5, "5 10 5"},
		{1000, 6, "6 10 4"}, {1000, 7, "7 10 3"}, {1000, 8, "8 10 2"}, {1000, 9, "9 10 1"}, {9, 9, "9 9 2"}, {10, 9, "9 10 1"}, {1000, 10, "10 10"}, {1000, 11, "11 9"}, {1000, 19, "19 1"},
		{19, 19, "19 1"}, {20, 19, "19 1"}, {20, 20, "20"}, {21, 20, "20"}, {21, 21, "20"}, {1000, 20, "20"}, {1000, 21, "20"}, {1000, 999, "20"}, {1000, 1000, "20"},
	} {
		checkSpeeds(t, "f1,0,0", c.most, c.gain, c.speeds)
		checkSpeeds(t, "f0,1,0", c.most, c.gain, c.speeds)
		checkSpeeds(t, "f0,0,1 f0,0,0 f1,0,0", c.most, c.gain, c.speeds+"|"+c.speeds+"|"+c.speeds)
		if c.most <= 500 {
			checkSpeeds(t, "g1,0,0 g0,0,0", 2*c.most, c.gain, c.speeds+"|"+c.speeds)
			checkSpeeds(t, "g0,0,1", max(c.gain, 2*c.most-1), c.gain, c.speeds)
		}
	}
}

func TestSpeedsOnTheLongestWay(t *testing.T) {
	for _, c := range []struct {
		most, gain int
		speeds     string
	}{
		{1, 1, times(1, 480)}, {480, 480, "480"}, {481, 481, "480"}, {1000, 1000, "480"}, {479, 479, "479 1"}, {1000, 479, "479 1"}, {1000, 480, "480"},
		{1000, 240, "240 240"}, {240, 240, "240 240"}, {239, 239, "239 239 2"}, {1000, 239, "239 240 1"}, {1000, 241, "241 239"}, {1000, 160, "160 240 80"},
		{1000, 120, "120 240 120"}, {240, 120, "120 240 120"}, {241, 120, "120 240 120"}, {239, 120, "120 239 120 1"}, {1000, 121, "121 240 119"}, {1000, 119, "119 238 121 2"},
	} {
		checkSpeeds(t, "f24,0,0", c.most, c.gain, c.speeds)
		checkSpeeds(t, "f0,24,0 f0,0,0", c.most, c.gain, c.speeds+"|"+c.speeds)
		checkSpeeds(t, "f0,0,1 f0,0,2 f0,0,9 f0,0,10 f0,0,24", c.most, c.gain, c.speeds)
		if c.most <= 500 {
			checkSpeeds(t, "g24,0,0", 2*c.most, c.gain, c.speeds)
			checkSpeeds(t, "g0,0,9 g0,0,24", max(c.gain, 2*c.most-1), c.gain, c.speeds)
		}
	}
}

// A move that is not Fast has half of the limit, rounded up.
func TestSpeedsByHalfOfTheLimit(t *testing.T) {
	for _, c := range []struct {
		most, gain int
		speeds     string
	}{
		{1, 1, times(1, 20)}, {2, 1, times(1, 20)}, {2, 2, times(1, 20)}, {3, 1, "1 " + times(2, 9) + "1"}, {3, 2, times(2, 10)}, {3, 3, times(2, 10)}, {4, 4, times(2, 10)}, {5, 5, "3 3 3 3 3 3 2"},
		{9, 9, "5 5 5 5"}, {10, 10, "5 5 5 5"}, {10, 3, "3 5 5 5 2"}, {9, 3, "3 5 5 5 2"}, {11, 11, "6 6 6 2"}, {12, 12, "6 6 6 2"}, {37, 37, "19 1"}, {38, 38, "19 1"}, {39, 39, "20"}, {40, 40, "20"}, {999, 999, "20"}, {1000, 1000, "20"},
	} {
		checkSpeeds(t, "g0,1,0", c.most, c.gain, c.speeds)
	}
	for most, speeds := range map[int]string{957: "479 1", 958: "479 1", 959: "480", 960: "480", 961: "480", 999: "480", 1000: "480"} {
		checkSpeeds(t, "g0,24,0", most, most, speeds)
	}
}

// Which moves are one way: those of one axis, one direction, all Fast or none.
func TestSpeedsByTheWays(t *testing.T) {
	for _, c := range [][2]string{
		{"f1,0,0 f2,0,0", "10 20 10"}, {"g1,0,0 g2,0,0", "10 20 10"}, {"f0,2,0", "10 20 10"}, {"f2,0,0 f1,0,0 f0,0,0", "10 20 10|10 20 10"}, {"g0,0,2 g0,0,1 g0,0,0", "10 20 10|10 20 10"},
		// Another axis, back again, another kind.
		{"f1,0,0 f1,1,0", "10 10|10 10"}, {"f0,1,0 f0,1,1", "10 10|10 10"}, {"f0,0,1 f1,0,1", "10 10|10 10"}, {"f1,0,0 f1,1,0 f2,1,0", "10 10|10 10|10 10"}, {"f0,0,1 f0,0,0", "10 10|10 10"}, {"g1,0,0 g0,0,0 g1,0,0", "10 10|10 10|10 10"},
		{"f1,0,0 g2,0,0", "10 10|10 10"}, {"g1,0,0 f2,0,0", "10 10|10 10"}, {"f0,1,0 g0,2,0 f0,3,0", "10 10|10 10|10 10"}, {"f1,0,0 f2,0,0 g3,0,0 g4,0,0 f5,0,0", "10 20 10|10 20 10|10 10"},
		{"f1,0,0 f2,0,0 f1,0,0 f1,0,1 f1,0,2 f2,0,2", "10 20 10|10 10|10 20 10|10 10"},
		// Moves that go nowhere: between two of one way, of either kind; between two ways; first, last, alone.
		{"f1,0,0 f1,0,0 f2,0,0", "10 20 10"}, {"f1,0,0 g1,0,0 f2,0,0", "10 20 10"}, {"g1,0,0 f1,0,0 g1,0,0 g2,0,0", "10 20 10"}, {"f0,0,1 g0,0,1 f0,0,1 g0,0,1 f0,0,2", "10 20 10"},
		{"f1,0,0 g1,0,0 g2,0,0", "10 10|10 10"}, {"f1,0,0 f1,0,0 f1,1,0", "10 10|10 10"}, {"f1,0,0 g1,0,0 f0,0,0", "10 10|10 10"}, {"g1,0,0 f1,0,0 f2,0,0", "10 10|10 10"},
		{"f0,0,0 f1,0,0", "10 10"}, {"g0,0,0 f0,0,0 f1,0,0 f2,0,0", "10 20 10"}, {"f1,0,0 f1,0,0", "10 10"}, {"f2,0,0 g2,0,0 g2,0,0", "10 20 10"},
		{"", ""}, {"f0,0,0", ""}, {"g0,0,0", ""}, {"f0,0,0 g0,0,0 f0,0,0", ""},
	} {
		for _, most := range []int{39, 40, 100, 1000} {
			checkSpeeds(t, c[0], most, 10, c[1])
		}
	}
	// Ends of moves within a tick: of several in one, and not at all where it ends.
	checkSpeeds(t, "f1,0,0 f3,0,0 f6,0,0", 1000, 40, "40 60 20")
	checkSpeeds(t, "f1,0,0 f2,0,0 f3,0,0 f4,0,0 f5,0,0 f6,0,0", 1000, 40, "40 60 20")
	checkSpeeds(t, "f1,0,0 f2,0,0 f3,0,0 f4,0,0 f5,0,0 f6,0,0", 1000, 1000, "120")
	checkSpeeds(t, "f1,0,0 f2,0,0 f3,0,0 f4,0,0 f5,0,0 f6,0,0", 33, 33, "33 33 33 21")
	// A way begins at no speed, however fast the one ahead was.
	checkSpeeds(t, "f6,0,0 f6,1,0", 1000, 40, "40 60 20|20")
	checkSpeeds(t, "f24,0,0 g24,24,0", 120, 60, "60 120 120 120 60|"+times(60, 8))
}

// All limits and gains that a short way, and a long one, can tell apart.
func TestTicksOfAllLimitsAndGains(t *testing.T) {
	for most := 1; most <= 50; most++ {
		for gain := 1; gain <= most; gain++ {
			checkDriven(t, movesOf("f1,0,0 g1,1,0 f1,2,0 f1,3,0"), most, gain)
			checkDriven(t, movesOf("g0,0,2 g0,0,3 f0,0,7 f0,0,0"), most, gain)
		}
	}
	for most := 60; most <= 1000; most += 47 {
		for gain := 1; gain <= most; gain += 13 {
			checkDriven(t, movesOf("f24,0,0 g24,24,0 f24,24,1 f24,24,8 f24,24,24 g24,24,0"), most, gain)
		}
		checkDriven(t, movesOf("f0,24,0 g0,0,0"), most, most)
	}
}
