package tests

import (
	"fmt"
	"slices"
	"strings"
	"testing"

	"loop.example/g00056/impl"
)

var countedLines = []string{"build", "faces", "section 0", "layers", "print", "mill 0 1"}

// What the six say of a part without a cell.
var nothingSaid = []string{" -> part 0 0", "", "", "", " -> print 0 0", " -> mill 1 0 0 0"}

func checkNothing(t *testing.T, ahead ...string) {
	t.Helper()
	turns := slices.Clone(ahead)
	for i, line := range countedLines {
		turns = append(turns, line+nothingSaid[i])
	}
	checkTalk(t, append(turns, "section 23", "mill 3 24 -> mill 1 0 0 0")...)
}

func TestConsolePartsWithoutACell(t *testing.T) {
	checkNothing(t)
	checkNothing(t, "block a 0 0 0 24 24 24 -> ok", "off a -> ok")
	checkNothing(t, "block a 5 6 7 8 9 10 -> ok", "drop a -> ok")
	checkNothing(t, "pocket a 0 0 0 24 24 24 -> ok")
	checkNothing(t, "block a 0 0 0 24 24 24 -> ok", "pocket b 0 0 0 24 24 24 -> ok")
	checkNothing(t, "block a 0 0 0 1 1 1 -> ok", "block b 0 0 0 1 1 1 a 6 -> ok", "row r a 8 1 1 1 -> ok", "off a -> ok")
}

// Each of the six says the code of what it calls; a number that is wrong as well
// is told behind that.
func TestConsolePartsThatAreNotBuilt(t *testing.T) {
	for word, turns := range map[string][]string{
		"none":  {"block a 0 0 0 3 1 1 -> ok", "block c 0 0 1 3 1 2 -> ok", "block x 0 0 0 1 1 1 a 6 -> ok"},
		"state": {"block a 0 0 0 3 1 1 -> ok", "block s 1 0 1 2 1 2 -> ok", "block x 0 0 0 1 1 1 a 6 -> ok"},
		"range": {"block a 0 0 0 3 1 1 -> ok", "row r a 8 3 0 0 -> ok"},
	} {
		for _, line := range append(slices.Clone(countedLines), "section -1", "section 24", "mill 4 1", "mill 0 0", "mill -1 25") {
			checkTalk(t, append(slices.Clone(turns), line+" -> error "+word, "save -> ok")...)
		}
	}
	// until what can not be done is left out
	checkTalk(t, "block a 0 0 0 3 1 1 -> ok", "row r a 8 3 0 0 -> ok", "layers -> error range", "off r -> ok", "layers -> layer 0 3 1", "back r -> ok", "print -> error range", "drop r -> ok", "print -> print 1 0")
}

func TestConsoleFaces(t *testing.T) {
	checkTalk(t, "block b 0 0 0 1 1 1 -> ok", "faces -> face b 1 1 1|face b 2 1 1|face b 3 1 1|face b 4 1 1|face b 5 1 1|face b 6 1 1",
		"block a 2 0 0 4 1 1 -> ok", "faces -> face a 1 1 1|face a 2 1 1|face a 3 2 1|face a 4 2 1|face a 5 2 1|face a 6 2 1|face b 1 1 1|face b 2 1 1|face b 3 1 1|face b 4 1 1|face b 5 1 1|face b 6 1 1",
		"block é 1 0 0 2 1 1 -> ok", "faces -> face a 2 1 1|face a 3 2 1|face a 4 2 1|face a 5 2 1|face a 6 2 1|face b 1 1 1|face b 3 1 1|face b 4 1 1|face b 5 1 1|face b 6 1 1|face é 3 1 1|face é 4 1 1|face é 5 1 1|face é 6 1 1",
		"off a -> ok", "off b -> ok", "faces -> face é 1 1 1|face é 2 1 1|face é 3 1 1|face é 4 1 1|face é 5 1 1|face é 6 1 1")
	// pieces, and a row's own squares
	checkTalk(t, "block a 0 0 0 5 1 1 -> ok", "pocket p 1 0 0 2 1 1 -> ok", "row r p 1 2 0 0 -> ok", "faces -> face a 1 1 1|face a 2 1 1|face a 3 3 3|face a 4 3 3|face a 5 3 3|face a 6 3 3|face p 1 1 1|face p 2 1 1|face r 1 1 1|face r 2 1 1", "build -> part 3 10")
}

func TestConsoleSection(t *testing.T) {
	checkTalk(t, "block a 0 0 0 24 24 24 -> ok", "section 0 -> "+allRows(24), "section 23 -> "+allRows(24), "section -1 -> error range", "section 24 -> error range", "section 999999999999999999 -> error range", "section -999999999999999999 -> error range",
		"pocket low 0 0 0 24 24 1 -> ok", "pocket high 0 0 23 24 24 24 -> ok", "section 0", "section 1 -> "+allRows(24), "section 22 -> "+allRows(24), "section 23")
	// rows that are empty, that begin and that end in empty cells
	checkTalk(t, "block a 2 3 4 5 6 7 -> ok", "pocket p 3 4 0 24 5 24 -> ok", "section 3", "section 4 -> 3 ..###|4 ..#|5 ..###", "section 6 -> 3 ..###|4 ..#|5 ..###", "section 7", "pocket q 2 4 4 3 5 5 -> ok", "section 4 -> 3 ..###|5 ..###", "section 5 -> 3 ..###|4 ..#|5 ..###")
	checkTalk(t, "block a 0 0 0 1 1 1 -> ok", "block b 23 0 0 24 1 1 -> ok", "block c 23 23 0 24 24 1 -> ok", "block d 0 22 0 1 23 1 -> ok", "section 0 -> 0 #......................#|22 #|23 .......................#")
}

// allRows: space is filled up to there in each row.
func allRows(wide int) string {
	var rows []string
	for y := range 24 {
		rows = append(rows, fmt.Sprint(y, " ", strings.Repeat("#", wide)))
	}
	return strings.Join(rows, "|")
}

func TestConsoleLayersAndPrint(t *testing.T) {
	checkTalk(t, "block a 0 0 0 2 1 1 -> ok", "row r a 2 0 3 0 -> ok", "layers -> layer 0 6 3", "print -> print 3 6", "block b 0 0 1 1 1 2 -> ok", "layers -> layer 0 6 3|layer 1 1 1", "off a -> ok", "layers -> layer 1 1 1")
	// the README's roof: it hangs, so that a prop is printed, too
	checkTalk(t, "block foot 0 0 0 3 1 1 -> ok", "block roof 1 0 2 2 1 3 -> ok", "layers -> layer 0 3 1|layer 2 1 1", "print -> print 3 3", "off foot -> ok", "layers -> layer 2 1 1", "print -> print 3 3", "back foot -> ok", "off roof -> ok", "print -> print 1 0")
	checkTalk(t, "block a 0 0 0 24 24 24 -> ok", "layers -> "+allLayers(), "print -> print 576 1104")
}

func allLayers() string {
	var layers []string
	for z := range 24 {
		layers = append(layers, fmt.Sprintf("layer %d 576 24", z))
	}
	return strings.Join(layers, "|")
}

func TestConsoleMill(t *testing.T) {
	// a slot of one column: what a tool can reach of it, and what it can not
	checkTalk(t, "block a 0 0 0 3 1 2 -> ok", "pocket p 1 0 1 2 1 2 -> ok", "mill 0 23 -> mill 5 1 22 0", "mill 0 24 -> mill 5 1 22 0", "mill 0 1 -> mill 5 1 22 0", "mill 1 23 -> mill 1 0 0 1", "mill 3 1 -> mill 1 0 0 1")
	// a part that does not begin at 0: the columns below are taken, too
	checkTalk(t, "block a 2 1 3 3 2 5 -> ok", "mill 0 24 -> mill 21 25 95 0", "mill 0 12 -> mill 21 25 95 0", "mill 0 19 -> mill 21 25 95 0", "mill 0 21 -> mill 41 25 200 0", "mill 1 24 -> mill 9 25 38 0", "mill 2 24 -> mill 5 25 19 0", "mill 3 24 -> mill 1 0 0 25")
	// what hangs counts as filled down to the ground
	checkTalk(t, "block a 1 0 7 2 1 8 -> ok", "mill 0 24 -> mill 5 8 16 0", "pocket b 1 0 0 2 1 7 -> ok", "mill 0 24 -> mill 5 8 16 0", "off a -> ok", "mill 0 24 -> mill 1 0 0 0")
	// a flat part: there is nothing to take
	checkTalk(t, "block a 0 0 0 24 24 24 -> ok", "mill 0 1 -> mill 1 0 0 0", "mill 3 24 -> mill 1 0 0 0")
}

// Each code of Zigzag: tools and steps that are none, and too many moves.
func TestConsoleMillCodes(t *testing.T) {
	turns := []string{"block a 0 0 0 3 1 2 -> ok"}
	for _, n := range []string{"-1 1", "4 1", "0 0", "3 25", "0 -1", "999999999999999999 1", "0 999999999999999999", "-999999999999999999 -999999999999999999", "4 0"} {
		turns = append(turns, "mill "+n+" -> error bad")
	}
	checkTalk(t, turns...)
	checkTalk(t, "mill 4 1 -> error bad", "mill 0 0 -> error bad", "mill 3 25 -> error bad")
	// of all columns but the two, and then but the three, that are as high as the stock
	checkTalk(t, "block a 0 0 0 1 1 1 -> ok", "block far 19 23 0 20 24 1 -> ok", "mill 0 24 -> mill 1913 478 10994 0", "block b 22 23 0 23 24 1 -> ok", "mill 0 24 -> error full", "mill 4 24 -> error bad", "off b -> ok", "mill 0 24 -> mill 1913 478 10994 0")
}

// countedTurns has so many of a line, and what all of them say.
func countedTurns(line, says string, count int) []string {
	return slices.Repeat([]string{line + says}, count)
}

func TestConsoleCounts(t *testing.T) {
	for i, line := range countedLines {
		turns := countedTurns(line, nothingSaid[i], 20)
		for _, other := range countedLines {
			checkTalk(t, append(slices.Clone(turns), other+" -> error many", other+" -> error many")...)
		}
		checkTalk(t, turns...)
	}
	// some of each
	var turns []string
	for n := range 20 {
		turns = append(turns, countedLines[n%6]+nothingSaid[n%6])
	}
	checkTalk(t, append(turns, "mill 0 1 -> error many", "build -> error many")...)
	// what is done, but says an error, counts; what is not right by its words does not, ahead or behind
	wrong := []string{"build 1 -> error syntax", "faces # -> error syntax", "section -> error syntax", "section 01 -> error syntax", "section 0 0 -> error syntax", "layers 0 -> error syntax", "print it -> error syntax", "mill 0 -> error syntax", "mill 0 x -> error syntax", "Build -> error syntax"}
	turns = slices.Concat(wrong, countedTurns("section 24", " -> error range", 10), wrong, countedTurns("mill 4 1", " -> error bad", 9), wrong, []string{"build -> part 0 0"}, wrong, []string{"section 24 -> error many", "mill 4 1 -> error many", "build -> error many"}, wrong, []string{"layers -> error many"})
	checkTalk(t, turns...)
	// others are not counted, and are done behind these, too
	turns = slices.Concat(countedTurns("save", " -> ok", 25), countedTurns("print", " -> print 0 0", 20), []string{"block a 0 0 0 1 1 1 -> ok", "build -> error many", "diff -> add a", "off a -> ok", "param a 1 -> ok", "eval a -> value 1 0", "fit 1 1 0 0 -> fit 1 1 1", "link a 1 1 1 1 -> ok", "chain 0 2 -> chain 0 2 safe", "nc|S1|end -> acts 1", "drop a -> ok", "diff -> same", "faces -> error many"})
	checkTalk(t, turns...)
	// what a machine program has is none of these
	program := "nc" + strings.Repeat("|build", 21) + "|end"
	checkTalk(t, program+" -> error syntax 1", "build -> part 0 0")
	// what is refused of features is no answer of the six, however often
	turns = slices.Concat([]string{"block a -1 0 0 1 1 1 -> ok"}, countedTurns("build", " -> error range", 20), countedTurns("build", " -> error many", 5), []string{"drop a -> ok", "build -> error many"})
	checkTalk(t, turns...)
	// another text begins anew
	if got, code := impl.Console("build\n"); got != "part 0 0\n" || code != impl.OK {
		t.Error("Console behind all these", got, code)
	}
}
