package tests

import (
	"fmt"
	"math/rand"
	"slices"
	"strings"
	"testing"

	"loop.example/g00056/impl"
)

// postMoves draws moves of which many stay, or go along one axis alone.
func postMoves(draw *rand.Rand, count, far int) []impl.Move {
	var moves []impl.Move
	at := impl.Move{Fast: true}
	for range count {
		if draw.Intn(3) == 0 {
			at.Fast = !at.Fast
		}
		for range draw.Intn(4) {
			n := draw.Intn(2*far+1) - far
			if draw.Intn(20) == 0 {
				n = []int{-100000, 0, 100000}[draw.Intn(3)]
			}
			*[]*int{&at.X, &at.Y, &at.Z}[draw.Intn(3)] = n
		}
		moves = append(moves, at)
	}
	return moves
}

func TestDrawnMovesPosted(t *testing.T) {
	draw := rand.New(rand.NewSource(1301))
	stays, changed := 0, 0
	for i := range 3000 {
		far := []int{1, 9, 100000}[i%3]
		moves := postMoves(draw, draw.Intn(25), far)
		texts := checkPosted(t, moves, draw.Intn(10), 1+draw.Intn(100000))
		// What is posted of what is posted is the same.
		tool, feed := draw.Intn(10), 1+draw.Intn(100000)
		for _, text := range texts {
			back, _, _ := impl.Posted(text)
			checkPosted(t, back, tool, feed)
		}
		for i, m := range moves[:max(0, len(moves)-1)] {
			next := moves[i+1]
			if next.X == m.X && next.Y == m.Y && next.Z == m.Z {
				stays++
			}
			if next.Fast != m.Fast {
				changed++
			}
		}
	}
	for range 20 {
		checkPosted(t, postMoves(draw, 480+draw.Intn(11), 100000), 9, 100000)
	}
	if stays < 5000 || changed < 5000 {
		t.Error("the moves are poor", stays, changed)
	}
}

// Moves that a strategy tells mill the same behind either machine.
func TestStrategiesPosted(t *testing.T) {
	draw := rand.New(rand.NewSource(1302))
	whole := 0
	for range 200 {
		stock, part := drawnStock(draw, 1+draw.Intn(5), 1+draw.Intn(5))
		r := draw.Intn(4)
		moves, code := impl.Zigzag(stock, part, r, 3+draw.Intn(22))
		if code != impl.OK || len(moves) > impl.MaxPosted {
			continue
		}
		whole++
		for _, text := range checkPosted(t, moves, r, 40) {
			back, _, _ := impl.Posted(text)
			if want, got := impl.Mill(stock, part, r, moves), impl.Mill(stock, part, r, back); want.Code != impl.OK || !sameMilled(got, want) {
				t.Fatal("Mill behind", text, got, want)
			}
		}
	}
	if whole < 100 {
		t.Error("the strategies are poor", whole)
	}
}

// drawnActs: near moves and some other acts.
func drawnActs(draw *rand.Rand, count int) []impl.Act {
	var acts []impl.Act
	at := impl.Act{Kind: impl.AcMove, Fast: true}
	for range count {
		switch draw.Intn(8) {
		case 0:
			acts = append(acts, impl.Act{Kind: []int{impl.AcTool, impl.AcSpin, impl.AcCode}[draw.Intn(3)], Num: draw.Intn(3)})
			continue
		case 1:
			at.Fast = !at.Fast
		case 2:
			*[]*int{&at.X, &at.Y, &at.Z}[draw.Intn(3)] = draw.Intn(9) - 4
		}
		*[]*int{&at.X, &at.Y, &at.Z}[draw.Intn(2)] += draw.Intn(5) - 1
		acts = append(acts, at)
	}
	return acts
}

// onTheWay is a place between two that lie along one axis, if there is one.
func onTheWay(draw *rand.Rand, from, to [3]int) ([3]int, bool) {
	var axes []int
	for axis := range to {
		if from[axis] != to[axis] {
			axes = append(axes, axis)
		}
	}
	if len(axes) != 1 {
		return from, false
	}
	axis := axes[0]
	low, high := min(from[axis], to[axis]), max(from[axis], to[axis])
	if high-low < 2 {
		return from, false
	}
	from[axis] = low + 1 + draw.Intn(high-low-1)
	return from, true
}

// parted: the same acts by the document's words, with moves to where the tool
// is put between, and Fast moves along one axis made in parts.
func parted(draw *rand.Rand, acts []impl.Act) []impl.Act {
	var all []impl.Act
	at := [3]int{}
	goTo := func(fast bool, to [3]int) {
		all = append(all, impl.Act{Kind: impl.AcMove, Fast: fast, X: to[0], Y: to[1], Z: to[2]})
		at = to
	}
	stay := func() {
		for draw.Intn(4) == 0 {
			goTo(draw.Intn(2) == 0, at)
		}
	}
	for _, a := range acts {
		stay()
		if a.Kind != impl.AcMove {
			all = append(all, a)
			continue
		}
		to := [3]int{a.X, a.Y, a.Z}
		for a.Fast && draw.Intn(3) > 0 {
			if next, ok := onTheWay(draw, at, to); ok {
				goTo(true, next)
			}
			stay()
		}
		goTo(a.Fast, to)
	}
	stay()
	return all
}

// written: a program that does the acts, in one of many ways.
func written(draw *rand.Rand, acts []impl.Act) string {
	lines, at := []string{"F" + fmt.Sprint(1+draw.Intn(9))}, [3]int{}
	for _, a := range acts {
		if a.Kind != impl.AcMove {
			lines = append(lines, fmt.Sprint([]string{"T", "S", "M"}[a.Kind-2], a.Num))
			continue
		}
		ways := draw.Intn(2)
		words := []string{fmt.Sprint("G", 90+ways), map[bool]string{true: "G0", false: "G1"}[a.Fast]}
		to, needed := [3]int{a.X, a.Y, a.Z}, 0
		for axis, letter := range []string{"X", "Y", "Z"} {
			if to[axis] != at[axis] || draw.Intn(3) == 0 || axis == 2 && needed == 0 {
				words = append(words, fmt.Sprint(letter, to[axis]-ways*at[axis]))
				needed++
			}
		}
		draw.Shuffle(len(words), func(i, j int) { words[i], words[j] = words[j], words[i] })
		lines, at = append(lines, strings.Join(words, " ")), to
	}
	text := strings.Join(lines, "\n") + "\n"
	switch draw.Intn(4) {
	case 0:
		return withNumbers(text)
	case 1:
		return stuffed(draw, text)
	case 2:
		return text + "M30\nX7 M9\n"
	}
	return text
}

func TestDrawnTwins(t *testing.T) {
	draw := rand.New(rand.NewSource(1303))
	joined, others := 0, 0
	for range 6000 {
		acts := drawnActs(draw, draw.Intn(9))
		parts := parted(draw, acts)
		one, two := written(draw, acts), written(draw, parts)
		if !checkTwinsByWords(t, one, two) || !checkTwinsByWords(t, two, one) {
			t.Fatalf("no twins: %q, %q", one, two)
		}
		if len(parts) > len(acts) {
			joined++
		}
		// One act of the parts gone, or once more, or another one.
		spoilt := slices.Clone(parts)
		if len(spoilt) > 0 {
			i := draw.Intn(len(spoilt))
			switch draw.Intn(4) {
			case 0:
				spoilt = slices.Delete(spoilt, i, i+1)
			case 1:
				spoilt = slices.Insert(spoilt, i, spoilt[draw.Intn(len(spoilt))])
			case 2:
				spoilt[i].Fast = spoilt[i].Kind == impl.AcMove && !spoilt[i].Fast
			default:
				if spoilt[i].Kind == impl.AcMove {
					spoilt[i].Z++
				} else {
					spoilt[i].Num++
				}
			}
		}
		three := written(draw, spoilt)
		if !checkTwinsByWords(t, one, three) {
			others++
		}
		checkTwinsByWords(t, three, two)
	}
	if joined < 3000 || others < 3000 {
		t.Error("the twins are poor", joined, others)
	}
}

// Each program of up to three lines against each other one.
func TestTwinsOfAllShortPrograms(t *testing.T) {
	texts := []string{"F1\n"}
	for first := 0; strings.Count(texts[first], "\n") < 4; first++ {
		for _, line := range []string{"G0 X0", "G0 X1", "G0 X2", "G0 X1 Y1", "G0 X2 Y2", "G0 Y1", "G1 X2", "M3"} {
			texts = append(texts, texts[first]+line+"\n")
		}
	}
	units := make([][]impl.Act, len(texts))
	for i, text := range texts {
		units[i] = unitsOf(exactRun(text).Acts)
	}
	alike := 0
	for i, a := range texts {
		for j, b := range texts {
			want := slices.Equal(units[i], units[j])
			if got, code := impl.Twins(a, b); got != want || code != impl.OK {
				t.Fatalf("Twins(%q, %q): %v %d, not %v", a, b, got, code, want)
			}
			if want && i != j {
				alike++
			}
		}
	}
	if len(texts) != 1+8+64+512 || alike < 1000 {
		t.Error("the programs are poor", len(texts), alike)
	}
}

// Programs with calls, cycles and faults: codes, moves and twins by the words.
func TestPostedOfDrawnPrograms(t *testing.T) {
	draw := rand.New(rand.NewSource(1304))
	codes := map[int]int{}
	texts := []string{"X1\n"}
	for range 4000 {
		text := drawnProgram(draw)
		if draw.Intn(2) == 0 {
			text = strings.ReplaceAll(drawnRoll(draw).text(draw), "L4", "L300")
		}
		log := exactRun(text)
		codes[log.Code]++
		var want []impl.Move
		for _, a := range log.Acts {
			if a.Kind == impl.AcMove && log.Code == impl.OK {
				want = append(want, impl.Move{Fast: a.Fast, X: a.X, Y: a.Y, Z: a.Z})
			}
		}
		if got, code, line := impl.Posted(text); code != log.Code || line != log.Line || !slices.Equal(got, want) {
			t.Fatalf("Posted(%q): %s %d %d, not %s %d %d", text, short(got), code, line, short(want), log.Code, log.Line)
		}
		other := texts[draw.Intn(len(texts))]
		checkCodeOfTwins(t, text, other)
		checkCodeOfTwins(t, other, text)
		if alike, code := impl.Twins(text, text); code != log.Code || alike != (code == impl.OK) {
			t.Fatalf("Twins of %q and itself: %v %d", text, alike, code)
		}
		texts = append(texts, text)
		if log.Code == impl.OK && len(want) <= impl.MaxPosted {
			checkPosted(t, want, draw.Intn(10), 1)
		}
	}
	for _, code := range []int{impl.OK, impl.ErrRange, impl.ErrName, impl.ErrNone, impl.ErrMany, impl.ErrZero, impl.ErrState, impl.ErrKind, impl.ErrFull} {
		if codes[code] < 20 {
			t.Error("the programs are poor", codes)
		}
	}
}

func checkCodeOfTwins(t *testing.T, a, b string) {
	t.Helper()
	want := exactRun(a).Code
	if want == impl.OK {
		want = exactRun(b).Code
	}
	if alike, code := impl.Twins(a, b); code != want || code != impl.OK && alike {
		t.Fatalf("Twins(%q, %q): %v %d, not %d", a, b, alike, code, want)
	}
}

func TestPostAnswersAreNewMemory(t *testing.T) {
	for _, moves := range [][]impl.Move{nil, {}, movesOf("f1,2,3"), movesOf("f1,2,3 g1,2,3 g4,5,6"), wrongMoves(3, greatest), make([]impl.Move, 490), make([]impl.Move, 491), make([]impl.Move, 4097)} {
		behind := movesOf("f77,77,77 g88,88,88")
		array := append(slices.Clone(moves), behind...)
		given := array[:len(moves)]
		for _, machine := range []int{0, 1, 2} {
			all := func() string {
				text, code := impl.Post(machine, given, 1, 2)
				back, backCode, line := impl.Posted(text)
				alike, twinCode := impl.Twins(text, "T1")
				told := fmt.Sprint(text, code, back, backCode, line, alike, twinCode)
				for i := range back[:cap(back)] {
					back[:cap(back)][i] = to(99, 99, 99)
				}
				return told
			}
			first := all()
			if again := all(); again != first {
				t.Error("answers share memory", machine, short(moves), short(first), short(again))
			}
		}
		if !slices.Equal(array, append(slices.Clone(moves), behind...)) {
			t.Error("an argument was changed", short(array))
		}
	}
}

// postCalls: calls of every function of the layer, right, at an edge and wrong.
func postCalls() []func() string {
	var calls []func() string
	tell := func(call func() string) { calls = append(calls, call) }
	texts := []string{"", "X1", "X1\nX2\n", "F1 G1 X1\nX2\nM3", "F5 G81 R2 Z-3 X1 Y1\nM98 P1\nM30\nO1 X4\nM99", "q", "G2", "X1\nM99", "X100001", strings.Repeat("M5\n", 500), strings.Repeat("\n", 501), strings.Repeat(" ", impl.MaxText+1)}
	lists := [][]impl.Move{nil, {to(0, 0, 0)}, {fast(1, 2, 3), to(1, 2, 3), to(-1, 2, 100000)}, {to(0, 100001, 0)}, {to(least, greatest, 0)}, make([]impl.Move, 490), make([]impl.Move, 491), make([]impl.Move, 4097)}
	for _, machine := range []int{least, 0, 1, 2, 3, greatest} {
		for _, moves := range lists {
			for _, pair := range [][2]int{{0, 1}, {9, 100000}, {10, 1}, {0, 0}, {least, greatest}, {greatest, least}} {
				tell(func() string { return fmt.Sprint(impl.Post(machine, moves, pair[0], pair[1])) })
			}
		}
	}
	for _, a := range texts {
		tell(func() string { return fmt.Sprint(impl.Posted(a)) })
		for _, b := range texts {
			tell(func() string { return fmt.Sprint(impl.Twins(a, b)) })
		}
	}
	return calls
}
