package tests

import (
	"fmt"
	"math/rand"
	"slices"
	"strings"
	"sync"
	"testing"

	"loop.example/g00056/impl"
)

func oneOf[T any](draw *rand.Rand, list ...T) T { return list[draw.Intn(len(list))] }

func drawnConsoleName(draw *rand.Rand) string {
	if draw.Intn(25) == 0 {
		return oneOf(draw, "1", "é", "a-", "min", "nowhere", "end")
	}
	return oneOf(draw, "a", "b", "c", "d")
}

// drawnConsoleTerm: terms that name few names, so that some go round in a circle.
func drawnConsoleTerm(draw *rand.Rand) string {
	part := func() string {
		return oneOf(draw, drawnConsoleName(draw), drawnConsoleName(draw), fmt.Sprint(draw.Intn(4)), fmt.Sprint(draw.Intn(9), "mm"), "1cm", "0.5", "(2)", "max(1, 2)")
	}
	term := part()
	for range draw.Intn(3) {
		term += oneOf(draw, " + ", " - ", "*", " / ", "  *  ", " +-", "", ") ") + part()
	}
	return term
}

// drawnBox: small, and sometimes none.
func drawnBox(draw *rand.Rand) string {
	b := drawing{}.box(draw, 0, 4)
	if draw.Intn(12) == 0 {
		b.X0, b.Z1 = draw.Intn(30)-3, draw.Intn(30)-2
	}
	return fmt.Sprint(b.X0, b.Y0, b.Z0, b.X1, b.Y1, b.Z1)
}

func drawnFeatureLine(draw *rand.Rand) string {
	name := drawnConsoleName(draw)
	switch draw.Intn(6) {
	case 0, 1:
		return "block " + name + " " + drawnBox(draw)
	case 2:
		return "pocket " + name + " " + drawnBox(draw)
	case 3:
		return fmt.Sprint(oneOf(draw, "block ", "pocket "), name, " ", drawnBox(draw), " ", drawnConsoleName(draw), " ", draw.Intn(8))
	case 4:
		return fmt.Sprint("row ", name, " ", drawnConsoleName(draw), " ", draw.Intn(5), " ", draw.Intn(5)-1, " ", draw.Intn(3), " ", draw.Intn(3)-1)
	}
	return oneOf(draw, "drop ", "off ", "back ", "off ") + name
}

func drawnProgramTurn(draw *rand.Rand) string {
	turn := "nc\n"
	for range draw.Intn(5) {
		turn += oneOf(draw, "X1", "F5", "G1 X3 F1", "G1  Y2", "#1=3", "Z#1 ; end", "M98 P1", "M99", "O1", "", " end", "build", "T1 S2", "M30", "G91", "eval 1", "(", "X1 X2", "N5 X-3") + "\n"
	}
	return turn + "end\n"
}

func drawnTurn(draw *rand.Rand) string {
	small := func() int { return draw.Intn(12) - 2 }
	line := ""
	switch draw.Intn(13) {
	case 0, 1:
		line = "param " + drawnConsoleName(draw) + " " + drawnConsoleTerm(draw)
	case 2:
		line = "eval " + drawnConsoleTerm(draw)
	case 3, 4, 5, 6:
		line = drawnFeatureLine(draw)
	case 7:
		line = oneOf(draw, "build", "faces", "layers", "print", fmt.Sprint("section ", draw.Intn(6)), fmt.Sprint("section ", draw.Intn(28)-2), fmt.Sprint("mill ", draw.Intn(5)-draw.Intn(2), " ", oneOf(draw, 24, 23, 22, 24, 20, 5, 0, 25)))
	case 8:
		line = oneOf(draw, "save", "diff", "diff")
	case 9:
		line = fmt.Sprint("link ", oneOf(draw, "a", "b", "c", "d", "e", "f", "1"), " ", oneOf(draw, 1, 1, -1, -1, 0), " ", small(), " ", draw.Intn(4), " ", draw.Intn(4))
	case 10:
		line = oneOf(draw, fmt.Sprint("chain ", small()-8, " ", small()+8), fmt.Sprint("fit ", draw.Intn(5), " ", draw.Intn(9), " ", draw.Intn(5), " ", draw.Intn(9)))
	case 11:
		return drawnProgramTurn(draw)
	default:
		line = oneOf(draw, "", "   ", "# a remark", "  #", "nc 1", "end", "Save", "build 1", "mill 1", "eval", "section x", "section 01", "diff\t", "param a", "fit 1 2 3")
	}
	return line + "\n"
}

func drawnScript(draw *rand.Rand, most int) []string {
	var turns []string
	for range 1 + draw.Intn(most) {
		if draw.Intn(12) == 0 { // another one of that name
			name := drawnConsoleName(draw)
			turns = append(turns, "drop "+name+"\n", "block "+name+" "+drawnBox(draw)+"\n")
		}
		turns = append(turns, drawnTurn(draw))
	}
	return turns
}

// tally counts what lines begin with: an error with its code's word, and others
// with their first word.
func tally(said string, counts map[string]int) {
	for _, line := range strings.Split(strings.TrimSuffix(said, "\n"), "\n") {
		words := append(strings.Split(line, " "), "", "")
		if words[0] == "error" {
			words[0] += " " + words[1]
		}
		counts[words[0]]++
	}
}

func TestDrawnScripts(t *testing.T) {
	draw := rand.New(rand.NewSource(2301))
	counts := map[string]int{}
	for range 800 {
		turns := drawnScript(draw, 100)
		text := strings.Join(turns, "")
		said, code := checkConsole(t, text)
		if code == impl.ErrMany {
			continue
		}
		tally(said, counts)
		for range 3 { // how things stand somewhere within
			checkConsole(t, strings.Join(turns[:draw.Intn(len(turns))], "")+"diff\neval a + b\nchain 0 9\noff a")
		}
	}
	for _, word := range []string{"ok", "value", "part", "face", "0", "3", "layer", "print", "mill", "add", "drop", "turn", "same", "chain", "fit", "acts", "error syntax", "error bad", "error range", "error name", "error twice", "error none", "error loop", "error many", "error zero", "error state", "error unit"} {
		if counts[word] < 20 {
			t.Error("too few say", word, counts)
		}
	}
}

// What is said of the first lines is the beginning of what is said of all of
// them, cut at every line; of lines of a machine program that is not ended there,
// nothing is said but an error.
func TestFirstLinesOfDrawnScripts(t *testing.T) {
	draw := rand.New(rand.NewSource(2302))
	programs := 0
	for range 150 {
		turns := drawnScript(draw, 60)
		all, code := impl.Console(strings.Join(turns, ""))
		if code != impl.OK {
			t.Fatal("Console", turns, code)
		}
		checkFirstLines(t, turns, all)
		ahead := ""
		for _, turn := range turns {
			told, _ := impl.Console(ahead)
			lines := strings.SplitAfter(turn, "\n")
			for n := 1; n < len(lines)-1; n++ {
				programs++
				text := ahead + strings.Join(lines[:n], "")
				if got, code := impl.Console(text); got != told+"error syntax\n" || code != impl.OK {
					t.Fatalf("Console(%q): %q %d, not %q and an error", text, got, code, told)
				}
			}
			ahead += turn
		}
	}
	if programs < 500 {
		t.Error("too few cut programs:", programs)
	}
}

// Whatever comes behind, what was said stays.
func TestLaterLinesChangeNothing(t *testing.T) {
	draw := rand.New(rand.NewSource(2303))
	for range 300 {
		first := strings.Join(drawnScript(draw, 40), "")
		told, code := impl.Console(first)
		if code != impl.OK {
			t.Fatal("Console", first, code)
		}
		for range 4 {
			later := strings.Join(drawnScript(draw, 20), "")
			if got, code := impl.Console(first + later); code != impl.OK || !strings.HasPrefix(got, told) {
				t.Fatalf("Console(%q and %q): %q %d, not %q first", first, later, got, code, told)
			}
		}
	}
}

// Remarks and blanks more change nothing, but where a blank is part of a rest of
// a line or of a machine program's line: so they stand ahead of a turn's first
// word, and behind and between words of those without a term.
func TestRemarksAndBlanksChangeNothing(t *testing.T) {
	draw := rand.New(rand.NewSource(2304))
	for range 300 {
		turns := drawnScript(draw, 45)
		told, _ := impl.Console(strings.Join(turns, ""))
		var spread []string
		for _, turn := range turns {
			for range draw.Intn(3) {
				spread = append(spread, oneOf(draw, "\n", "    \n", "#\n", "# build\n", "   #nc\n", "#\xff\t\n"))
			}
			spread = append(spread, spreadTurn(draw, turn))
		}
		text := strings.Join(spread, "")
		if consoleLines(text) > 200 {
			continue
		}
		if got, code := checkConsole(t, text); got != told || code != impl.OK {
			t.Fatalf("Console(%q): %q %d, not %q as of %q", text, got, code, told, turns)
		}
	}
}

func spreadTurn(draw *rand.Rand, turn string) string {
	blanks := func() string { return strings.Repeat(" ", draw.Intn(4)) }
	line, rest, _ := strings.Cut(turn, "\n")
	words := strings.Fields(line)
	switch {
	case len(words) == 0 || strings.Contains(line, "\t"):
		return turn
	case words[0] == "param" && len(words) > 2:
		name, term, _ := strings.Cut(strings.TrimPrefix(line, "param "), " ")
		return blanks() + "param " + blanks() + name + " " + term + "\n"
	case words[0] == "param" || words[0] == "eval":
		return blanks() + turn
	}
	spread := blanks()
	for _, word := range words {
		spread += word + " " + blanks()
	}
	return strings.TrimRight(spread, " ") + blanks() + "\n" + rest
}

// A blank that is part of a rest of a line changes nothing of a term's value, but
// it parts what was one; within a program's line it makes the end another line.
func TestBlanksThatArePartOfSomething(t *testing.T) {
	checkTalk(t, "param a 12 -> ok", "eval a -> value 12 0", "param a 1 2 -> error syntax", "eval a -> value 12 0", "param a   12   -> ok", "eval a -> value 12 0", "eval 1mm -> value 1 1", "eval 1 mm -> error syntax")
	checkTalk(t, "nc|X1 2|end -> acts 1", "nc|X1|end -> acts 1", "nc|X1| end|end -> error syntax 2")
}

// Several scripts at a time have nothing to do with one another.
func TestScriptsSideBySide(t *testing.T) {
	draw := rand.New(rand.NewSource(2305))
	var texts, told []string
	for range 24 {
		text := strings.Join(drawnScript(draw, 60), "")
		said, _ := impl.Console(text)
		texts, told = append(texts, text), append(told, said)
	}
	var workers sync.WaitGroup
	for range 4 {
		for i, text := range texts {
			workers.Go(func() {
				if got, _ := impl.Console(text); got != told[i] {
					t.Errorf("Console(%q) side by side: %q, not %q", text, got, told[i])
				}
			})
		}
	}
	workers.Wait()
}

// Bytes put in, left out and changed, lines exchanged and done again.
func TestSpoiltScripts(t *testing.T) {
	draw := rand.New(rand.NewSource(2306))
	codes := map[int]int{}
	for range 1500 {
		turns := drawnScript(draw, 30)
		draw.Shuffle(len(turns), func(i, j int) { turns[i], turns[j] = turns[j], turns[i] })
		text := []byte(strings.Join(turns, ""))
		for range 1 + draw.Intn(20) {
			at := draw.Intn(len(text) + 1)
			switch draw.Intn(3) {
			case 0:
				text = slices.Insert(text, at, oneOf(draw, '\n', ' ', '#', '\t', '0', '-', byte(draw.Intn(256))))
			case 1:
				text = slices.Delete(text, at, min(len(text), at+1+draw.Intn(3)))
			default:
				text = slices.Replace(text, at, min(len(text), at+1), byte(draw.Intn(256)))
			}
			if len(text) == 0 {
				break
			}
		}
		if draw.Intn(10) == 0 {
			text = slices.Concat(text, text, text, text, text, text, text, text)
		}
		_, code := checkConsole(t, string(text))
		codes[code]++
	}
	if codes[impl.OK] < 500 || codes[impl.ErrMany] < 20 || len(codes) != 2 {
		t.Error("codes", codes)
	}
}
