package tests

import (
	"fmt"
	"slices"
	"strings"
	"testing"

	"loop.example/g00056/impl"
)

var bothMachines = []int{impl.PoPlain, impl.PoSteps}

// movesOf reads moves told in short, as actsOf does.
func movesOf(told string) []impl.Move {
	var moves []impl.Move
	for _, a := range actsOf(told) {
		moves = append(moves, impl.Move{Fast: a.Fast, X: a.X, Y: a.Y, Z: a.Z})
	}
	return moves
}

// exactPlain goes by the document's words: what holds is kept in texts, word by
// word, and what stands there already is left out.
func exactPlain(moves []impl.Move, tool, feed int) string {
	text := fmt.Sprintf("T%d F%d\n", tool, feed)
	held := []string{"G0", "X0", "Y0", "Z0"}
	for _, m := range moves {
		wanted := []string{map[bool]string{true: "G0", false: "G1"}[m.Fast], fmt.Sprint("X", m.X), fmt.Sprint("Y", m.Y), fmt.Sprint("Z", m.Z)}
		var line []string
		for i, word := range wanted {
			if word != held[i] || i == 1 && slices.Equal(wanted[1:], held[1:]) {
				line = append(line, word)
			}
		}
		text += strings.Join(line, " ") + "\n"
		held = wanted
	}
	return text + "M30\n"
}

func exactSteps(moves []impl.Move, tool, feed int) string {
	text := fmt.Sprintf("N10 T%d F%d G91\n", tool, feed)
	was := impl.Move{}
	for i, m := range moves {
		text += fmt.Sprintf("N%d0 G%d X%d Y%d Z%d\n", i+2, map[bool]int{false: 1}[m.Fast], m.X-was.X, m.Y-was.Y, m.Z-was.Z)
		was = m
	}
	return text + fmt.Sprintf("N%d0 M30\n", len(moves)+2)
}

func exactPost(machine int, moves []impl.Move, tool, feed int) string {
	if machine == impl.PoPlain {
		return exactPlain(moves, tool, feed)
	}
	return exactSteps(moves, tool, feed)
}

// checkMakes: what a program does, by the document's words, is to take that
// tool and to make these moves; and Posted tells them.
func checkMakes(t *testing.T, text string, moves []impl.Move, tool int) {
	t.Helper()
	log := exactRun(text)
	want := []impl.Act{{Kind: impl.AcTool, Num: tool}}
	for _, m := range moves {
		want = append(want, impl.Act{Kind: impl.AcMove, Fast: m.Fast, X: m.X, Y: m.Y, Z: m.Z})
	}
	if log.Code != impl.OK || !slices.Equal(log.Acts, want) {
		t.Fatalf("%q does %s, not %s", short(text), short(log), short(want))
	}
	if got, code, line := impl.Posted(text); code != impl.OK || line != 0 || !slices.Equal(got, moves) {
		t.Fatalf("Posted(%q): %s %d %d, not %s", short(text), short(got), code, line, short(moves))
	}
}

// checkPosted: for either machine the text that the words of the document lead
// to, and the same moves again; and both texts are twins.
func checkPosted(t *testing.T, moves []impl.Move, tool, feed int) [2]string {
	t.Helper()
	var texts [2]string
	for i, machine := range bothMachines {
		text, code := impl.Post(machine, moves, tool, feed)
		if want := exactPost(machine, moves, tool, feed); code != impl.OK || text != want {
			t.Fatalf("Post(%d, %s, %d, %d): %q %d, not %q", machine, short(moves), tool, feed, short(text), code, short(want))
		}
		checkMakes(t, text, moves, tool)
		texts[i] = text
	}
	for _, pair := range [][2]int{{0, 1}, {1, 0}, {0, 0}, {1, 1}} {
		if alike, code := impl.Twins(texts[pair[0]], texts[pair[1]]); !alike || code != impl.OK {
			t.Fatalf("Twins(%q, %q): %v %d", texts[pair[0]], texts[pair[1]], alike, code)
		}
	}
	return texts
}

// checkBoth: both texts of moves told in short, with bars for bytes 10; of
// steps without the numbers of the lines.
func checkBoth(t *testing.T, told string, tool, feed int, plain, steps string) {
	t.Helper()
	var numbered []string
	for i, line := range strings.Split(steps, "|") {
		numbered = append(numbered, fmt.Sprintf("N%d %s\n", 10+10*i, line))
	}
	texts := checkPosted(t, movesOf(told), tool, feed)
	if want := [2]string{program(plain) + "\n", strings.Join(numbered, "")}; texts != want {
		t.Errorf("Post of %q: %q, not %q", told, texts, want)
	}
}

func TestPostLimits(t *testing.T) {
	if impl.MaxPosted != 490 || impl.PoPlain != 1 || impl.PoSteps != 2 {
		t.Error("limits", impl.MaxPosted, impl.PoPlain, impl.PoSteps)
	}
}

func TestPostsTold(t *testing.T) {
	checkBoth(t, "f3,0,0 g3,0,2 g3,0,2 f3,4,2", 2, 150, "T2 F150|X3|G1 Z2|X3|G0 Y4|M30", "T2 F150 G91|G0 X3 Y0 Z0|G1 X0 Y0 Z2|G1 X0 Y0 Z0|G0 X0 Y4 Z0|M30")
	checkBoth(t, "f0,0,24 f5,0,24 f5,6,24 g5,6,1 f5,6,24", 7, 8, "T7 F8|Z24|X5|Y6|G1 Z1|G0 Z24|M30", "T7 F8 G91|G0 X0 Y0 Z24|G0 X5 Y0 Z0|G0 X0 Y6 Z0|G1 X0 Y0 Z-23|G0 X0 Y0 Z23|M30")
	// No move at all.
	checkBoth(t, "", 0, 1, "T0 F1|M30", "T0 F1 G91|M30")
	checkBoth(t, "", 9, 100000, "T9 F100000|M30", "T9 F100000 G91|M30")
	// A first move that is Fast, or not.
	checkBoth(t, "f1,2,3", 1, 1, "T1 F1|X1 Y2 Z3|M30", "T1 F1 G91|G0 X1 Y2 Z3|M30")
	checkBoth(t, "g1,2,3", 1, 1, "T1 F1|G1 X1 Y2 Z3|M30", "T1 F1 G91|G1 X1 Y2 Z3|M30")
	// G0 and G1 where the move ahead had the other one.
	checkBoth(t, "g1,0,0 g2,0,0 f3,0,0 f4,0,0 g5,0,0 f6,0,0", 1, 1, "T1 F1|G1 X1|X2|G0 X3|X4|G1 X5|G0 X6|M30", "T1 F1 G91|G1 X1 Y0 Z0|G1 X1 Y0 Z0|G0 X1 Y0 Z0|G0 X1 Y0 Z0|G1 X1 Y0 Z0|G0 X1 Y0 Z0|M30")
	// One, two or three of X, Y, Z stay.
	checkBoth(t, "f1,1,1 f2,2,1 f3,2,2 f3,3,3 f4,3,3 f4,4,3 f4,4,4 f4,4,4", 1, 1, "T1 F1|X1 Y1 Z1|X2 Y2|X3 Z2|Y3 Z3|X4|Y4|Z4|X4|M30", "T1 F1 G91|G0 X1 Y1 Z1|G0 X1 Y1 Z0|G0 X1 Y0 Z1|G0 X0 Y1 Z1|G0 X1 Y0 Z0|G0 X0 Y1 Z0|G0 X0 Y0 Z1|G0 X0 Y0 Z0|M30")
	// Numbers below 0 and to 0 again.
	checkBoth(t, "f-1,-2,-3 f1,-2,0 g0,0,0", 1, 1, "T1 F1|X-1 Y-2 Z-3|X1 Z0|G1 X0 Y0|M30", "T1 F1 G91|G0 X-1 Y-2 Z-3|G0 X2 Y0 Z3|G1 X-1 Y2 Z0|M30")
	// At the bounds, and from one to the other.
	checkBoth(t, "f100000,-100000,100000 f-100000,100000,-100000 g100000,100000,100000", 3, 99999, "T3 F99999|X100000 Y-100000 Z100000|X-100000 Y100000 Z-100000|G1 X100000 Z100000|M30", "T3 F99999 G91|G0 X100000 Y-100000 Z100000|G0 X-200000 Y200000 Z-200000|G1 X200000 Y0 Z200000|M30")
}

// A move to where the tool is: the first one, between others, the last one,
// several; of the kind of the one ahead, and of the other kind.
func TestPostsOfMovesThatGoNowhere(t *testing.T) {
	checkBoth(t, "f0,0,0", 1, 1, "T1 F1|X0|M30", "T1 F1 G91|G0 X0 Y0 Z0|M30")
	checkBoth(t, "g0,0,0", 1, 1, "T1 F1|G1 X0|M30", "T1 F1 G91|G1 X0 Y0 Z0|M30")
	checkBoth(t, "f0,0,0 f1,0,0", 1, 1, "T1 F1|X0|X1|M30", "T1 F1 G91|G0 X0 Y0 Z0|G0 X1 Y0 Z0|M30")
	checkBoth(t, "g0,0,0 f0,0,0 g0,0,0 g0,0,0", 1, 1, "T1 F1|G1 X0|G0 X0|G1 X0|X0|M30", "T1 F1 G91|G1 X0 Y0 Z0|G0 X0 Y0 Z0|G1 X0 Y0 Z0|G1 X0 Y0 Z0|M30")
	checkBoth(t, "f0,5,0 f0,5,0 f0,5,6", 1, 1, "T1 F1|Y5|X0|Z6|M30", "T1 F1 G91|G0 X0 Y5 Z0|G0 X0 Y0 Z0|G0 X0 Y0 Z6|M30")
	checkBoth(t, "f-7,5,0 g-7,5,0 f-7,5,6", 1, 1, "T1 F1|X-7 Y5|G1 X-7|G0 Z6|M30", "T1 F1 G91|G0 X-7 Y5 Z0|G1 X0 Y0 Z0|G0 X0 Y0 Z6|M30")
	checkBoth(t, "g0,0,9 g0,0,9", 1, 1, "T1 F1|G1 Z9|X0|M30", "T1 F1 G91|G1 X0 Y0 Z9|G1 X0 Y0 Z0|M30")
	checkBoth(t, "g2,0,9 f2,0,9", 1, 1, "T1 F1|G1 X2 Z9|G0 X2|M30", "T1 F1 G91|G1 X2 Y0 Z9|G0 X0 Y0 Z0|M30")
	checkBoth(t, "f1,2,3 f1,2,3 f1,2,3", 1, 1, "T1 F1|X1 Y2 Z3|X1|X1|M30", "T1 F1 G91|G0 X1 Y2 Z3|G0 X0 Y0 Z0|G0 X0 Y0 Z0|M30")
	checkBoth(t, "f100000,0,0 f100000,0,0 f-100000,0,0 f-100000,0,0", 1, 1, "T1 F1|X100000|X100000|X-100000|X-100000|M30", "T1 F1 G91|G0 X100000 Y0 Z0|G0 X0 Y0 Z0|G0 X-200000 Y0 Z0|G0 X0 Y0 Z0|M30")
}

// All lists of near moves: each of 8 places, each Fast or not.
func TestPostsOfAllShortLists(t *testing.T) {
	var near []impl.Move
	for i := range 16 {
		near = append(near, impl.Move{Fast: i&1 == 0, X: i >> 1 & 1, Y: -(i >> 2 & 1), Z: 7 * (i >> 3 & 1)})
	}
	for _, a := range near {
		checkPosted(t, []impl.Move{a}, 4, 3)
		for _, b := range near {
			checkPosted(t, []impl.Move{a, b}, 4, 3)
			for _, c := range near {
				checkPosted(t, []impl.Move{a, b, c}, 4, 3)
			}
		}
	}
}

func TestPostsByToolAndFeed(t *testing.T) {
	moves := movesOf("f1,2,3 g1,2,0")
	for tool := range 10 {
		for _, feed := range []int{1, 2, 10, 99999, 100000} {
			checkPosted(t, moves, tool, feed)
			checkPosted(t, nil, tool, feed)
		}
	}
	for _, machine := range bothMachines {
		for _, tool := range []int{least, least + 1, -100000, -2, -1, 10, 11, 266, 1 << 32, greatest} {
			checkUnposted(t, machine, moves, tool, 1, impl.ErrBad)
			checkUnposted(t, machine, nil, tool, 100000, impl.ErrBad)
		}
		for _, feed := range []int{least, least + 1, -100000, -1, 0, 100001, 100002, 1<<32 + 1, greatest} {
			checkUnposted(t, machine, moves, 0, feed, impl.ErrBad)
			checkUnposted(t, machine, nil, 9, feed, impl.ErrBad)
		}
	}
}

func checkUnposted(t *testing.T, machine int, moves []impl.Move, tool, feed, code int) {
	t.Helper()
	if text, got := impl.Post(machine, moves, tool, feed); got != code || text != "" {
		t.Errorf("Post(%d, %d moves, %d, %d): %q %d, not %d", machine, len(moves), tool, feed, short(text), got, code)
	}
}

// axisMoves: the move once for each axis, with that number there.
func axisMoves(n int) []impl.Move {
	return []impl.Move{to(n, 0, 0), to(0, n, 0), to(0, 0, n), fast(n, 0, 0), fast(0, n, 0), fast(0, 0, n), to(n, n, n)}
}

func TestPostsByTheirPlaces(t *testing.T) {
	for _, n := range []int{-100000, -99999, 99999, 100000} {
		for _, move := range axisMoves(n) {
			for count := range 4 {
				checkPosted(t, slices.Insert(movesOf("f1,1,1 g2,2,2 f3,3,3"), count, move), 1, 1)
			}
		}
		checkPosted(t, axisMoves(n), 1, 1)
	}
	for _, n := range []int{least, least + 1, -1 << 32, -200000, -100001, 100001, 200000, 1 << 32, greatest - 1, greatest} {
		for _, move := range axisMoves(n) {
			for _, machine := range bothMachines {
				for count := range 4 {
					checkUnposted(t, machine, slices.Insert(movesOf("f1,1,1 g2,2,2 f3,3,3"), count, move), 1, 1, impl.ErrBad)
				}
			}
		}
	}
}

// longMoves: as long in a text as moves can be.
func longMoves(count int) []impl.Move {
	moves := make([]impl.Move, count)
	for i := range moves {
		at := 100000 - 200000*(i%2)
		moves[i] = impl.Move{Fast: i%2 == 0, X: -at, Y: at, Z: -at}
	}
	return moves
}

func TestPostsByTheirCount(t *testing.T) {
	for _, count := range []int{1, 2, 488, 489, 490} {
		for _, moves := range [][]impl.Move{longMoves(count), make([]impl.Move, count)} {
			texts := checkPosted(t, moves, 9, 100000)
			for i, text := range texts {
				if strings.Count(text, "\n") != count+2 || len(text) > impl.MaxText {
					t.Error("a text of", strings.Count(text, "\n"), "lines and", len(text), "bytes of", count, "moves for", bothMachines[i])
				}
			}
			if last := fmt.Sprintf("\nN%d M30\n", 10*(count+2)); !strings.HasSuffix(texts[1], last) {
				t.Error("the last line", texts[1][len(texts[1])-20:])
			}
		}
	}
	for _, machine := range bothMachines {
		for _, count := range []int{491, 492, 499, 500, 501, 1000, 2000, 2001, 4095, 4096} {
			checkUnposted(t, machine, longMoves(count), 0, 1, impl.ErrMany)
			checkUnposted(t, machine, make([]impl.Move, count), 9, 100000, impl.ErrMany)
		}
		for _, count := range []int{4097, 5000, 100000} {
			checkUnposted(t, machine, longMoves(count), 0, 1, impl.ErrLong)
			checkUnposted(t, machine, make([]impl.Move, count), 0, 1, impl.ErrLong)
		}
	}
}

// wrongMoves has one move that is beyond, the last one.
func wrongMoves(count, n int) []impl.Move {
	moves := make([]impl.Move, count)
	moves[count-1].Z = n
	return moves
}

// ErrLong, ErrKind, ErrBad, ErrMany: of several faults the first of these.
func TestPostCodesByTheirOrder(t *testing.T) {
	for _, machine := range []int{least, least + 1, -2, -1, 0, 3, 4, 257, 258, 1<<32 + 1, 1<<32 + 2, greatest} {
		for _, tool := range []int{least, -1, 0, 9, 10, greatest} {
			for _, feed := range []int{least, 0, 1, 100000, 100001, greatest} {
				for _, moves := range [][]impl.Move{nil, movesOf("f1,2,3"), wrongMoves(1, 100001), make([]impl.Move, 490), make([]impl.Move, 491), wrongMoves(491, -100001), make([]impl.Move, 4096), wrongMoves(4096, greatest)} {
					checkUnposted(t, machine, moves, tool, feed, impl.ErrKind)
				}
				checkUnposted(t, machine, make([]impl.Move, 4097), tool, feed, impl.ErrLong)
				checkUnposted(t, machine, wrongMoves(4097, least), tool, feed, impl.ErrLong)
			}
		}
	}
	for _, machine := range bothMachines {
		for _, wrong := range [][2]int{{-1, 1}, {10, 1}, {0, 0}, {9, 100001}, {10, 0}, {least, greatest}} {
			for _, count := range []int{0, 490, 491, 4096} {
				checkUnposted(t, machine, make([]impl.Move, count), wrong[0], wrong[1], impl.ErrBad)
			}
			checkUnposted(t, machine, wrongMoves(491, 100001), wrong[0], wrong[1], impl.ErrBad)
			checkUnposted(t, machine, make([]impl.Move, 4097), wrong[0], wrong[1], impl.ErrLong)
		}
		for _, n := range []int{-100001, 100001, least, greatest} {
			for _, count := range []int{1, 490, 491, 4096} {
				checkUnposted(t, machine, wrongMoves(count, n), 1, 1, impl.ErrBad)
			}
			checkUnposted(t, machine, wrongMoves(4097, n), 1, 1, impl.ErrLong)
		}
	}
}

func checkPostedMoves(t *testing.T, bars, moves string) {
	t.Helper()
	for _, text := range []string{program(bars), program(bars) + "\n"} {
		if got, code, line := impl.Posted(text); code != impl.OK || line != 0 || !slices.Equal(got, movesOf(moves)) {
			t.Errorf("Posted(%q): %v %d %d, not %q", text, got, code, line, moves)
		}
	}
}

func TestPostedOfOtherPrograms(t *testing.T) {
	for _, c := range [][2]string{
		{"", ""}, {"||", ""}, {"T1 F5 S3 M4|#1=4", ""}, {"X1", "f1,0,0"}, {"X0|X0 Y0 Z0", "f0,0,0 f0,0,0"}, {"F5 G1 X1|Y2|G0 Z3", "g1,0,0 g1,2,0 f1,2,3"}, {"(X1) ;X2|X3 (X4)", "f3,0,0"},
		// Other acts are left out, wherever they stand.
		{"T3|X1 S5 M7|M3 M4|G91 Y2 M8|T4", "f1,0,0 f1,2,0"}, {"S1 X1 T2 M3|M30|X2", "f1,0,0"}, {"M3|M4 S0 T0", ""},
		// Ways, variables, places.
		{"#1=5|X#1|G91 X#1|#1=#1*2|G90 X#1", "f5,0,0 f10,0,0 f10,0,0"}, {"X100000|G91 X-200000", "f100000,0,0 f-100000,0,0"},
		// Cycles: four moves each.
		{"F5 G81 R2 Z-3 X1 Y1|X4|G80 Z7", "f1,1,0 f1,1,2 g1,1,-3 f1,1,2 f4,1,2 f4,1,2 g4,1,-3 f4,1,2 f4,1,7"}, {"F5 G81 R0 Z0 X0", "f0,0,0 f0,0,0 g0,0,0 f0,0,0"}, {"F5 G81 R2 Z-3|M5", ""},
		// Calls and their rounds.
		{"G91|M98 P1 L3|M30|O1 X1 M5|M99", "f1,0,0 f2,0,0 f3,0,0"}, {"F1|M98 P1 L2|X9|M30|O1 G1 X1|M98 P2|M99|O2 G0 Y1 T3|M99", "g1,0,0 f1,1,0 g1,1,0 f1,1,0 f9,1,0"},
	} {
		checkPostedMoves(t, c[0], c[1])
	}
	// More moves than Post takes.
	if got, code, _ := impl.Posted("F1 G81 R1 Z2 G91\n" + strings.Repeat("X1 M5\n", 499)); code != impl.OK || len(got) != 4*499 || got[1995] != fast(499, 0, 1) || got[1994] != to(499, 0, 2) {
		t.Error("Posted of many moves", code, len(got))
	}
}

func checkNoMoves(t *testing.T, text string, code, line int) {
	t.Helper()
	if got, gotCode, gotLine := impl.Posted(text); len(got) != 0 || gotCode != code || gotLine != line {
		t.Errorf("Posted(%q): %v %d %d, not %d %d", short(text), got, gotCode, gotLine, code, line)
	}
}

func TestPostedOfWrongPrograms(t *testing.T) {
	for _, c := range []struct {
		bars       string
		code, line int
	}{
		// None at all.
		{"q", impl.ErrSyntax, 1}, {"X1|Y", impl.ErrSyntax, 2}, {"X1|X1 X2", impl.ErrMany, 2}, {strings.Repeat("X1|", 501), impl.ErrMany, 501}, {"\x00", impl.ErrSyntax, 1},
		// One that fails, at first or behind some moves.
		{"G2", impl.ErrKind, 1}, {"X1|M99", impl.ErrState, 2}, {"X1|X2|G1 X3", impl.ErrState, 3}, {"X1|X100001", impl.ErrRange, 2}, {"F5 X1|G81 X2 R1", impl.ErrName, 2}, {"X1|M98 P7", impl.ErrNone, 2}, {"X1|#1=1/0|X2", impl.ErrZero, 2}, {"X1|O1|M98 P1", impl.ErrMany, 3}, {"M98 P1 L5000|O1 X1 M99", impl.ErrFull, 2}, {"G81 R1 Z2 X3", impl.ErrState, 1}, {"X1|T10", impl.ErrRange, 2},
	} {
		checkNoMoves(t, program(c.bars), c.code, c.line)
	}
	if got, code, _ := impl.Posted(strings.Repeat(" ", impl.MaxText-2) + "X1"); code != impl.OK || !slices.Equal(got, movesOf("f1,0,0")) {
		t.Error("Posted of a long text", code, got)
	}
	checkNoMoves(t, strings.Repeat(" ", impl.MaxText-1)+"X1", impl.ErrLong, 0)
	checkNoMoves(t, strings.Repeat("X1\n", impl.MaxText), impl.ErrLong, 0)
	checkNoMoves(t, strings.Repeat("q", impl.MaxText+1), impl.ErrLong, 0)
}
