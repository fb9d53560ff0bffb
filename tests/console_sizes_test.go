package tests

import (
	"fmt"
	"slices"
	"strings"
	"testing"

	"loop.example/g00056/impl"
)

func TestConsoleLinksAndChains(t *testing.T) {
	checkTalk(t, "chain 0 0 -> error bad", "chain -999999999999999999 999999999999999999 -> error bad", "link a 1 300 2 1 -> ok", "chain 299 302 -> chain 299 302 safe", "link b -1 295 1 3 -> ok", "chain 0 100 -> chain 3 10 safe")
	// bounds that just hold and just don't, low above high
	ahead := []string{"link a 1 300 2 1 -> ok", "link b -1 295 1 3 -> ok"}
	checkTalk(t, slices.Concat(ahead, []string{"chain 3 10 -> chain 3 10 safe", "chain 4 10 -> chain 3 10 unsafe", "chain 3 9 -> chain 3 10 unsafe", "chain 4 9 -> chain 3 10 unsafe", "chain 2 11 -> chain 3 10 safe", "chain 10 3 -> chain 3 10 unsafe", "chain -3 -10 -> chain 3 10 unsafe", "chain 11 12 -> chain 3 10 unsafe", "chain -999999999999999999 999999999999999999 -> chain 3 10 safe", "chain 999999999999999999 -999999999999999999 -> chain 3 10 unsafe"})...)
	checkTalk(t, "link a 1 5 0 0 -> ok", "chain 5 5 -> chain 5 5 safe", "chain 6 4 -> chain 5 5 unsafe", "chain 5 4 -> chain 5 5 unsafe", "chain 6 5 -> chain 5 5 unsafe", "link b -1 5 0 0 -> ok", "chain 0 0 -> chain 0 0 safe", "link c -1 1 0 0 -> ok", "chain -1 -1 -> chain -1 -1 safe")
	checkTalk(t, "link a -1 -100000 100000 100000 -> ok", "chain 0 200000 -> chain 0 200000 safe", "link b 1 100000 0 0 -> ok", "chain 0 0 -> chain 100000 300000 unsafe")
}

// A wrong link changes nothing.
func TestConsoleLinksThatAreRefused(t *testing.T) {
	for _, wrong := range []string{
		"link a 1 1 1 1", "link a -1 300 2 1", "link 1 1 1 1 1", "link b. 1 1 1 1", "link " + strings.Repeat("b", 41) + " 1 1 1 1", "link b 0 1 1 1", "link b 2 1 1 1", "link b -2 1 1 1",
		"link b 1 100001 1 1", "link b 1 -100001 1 1", "link b 1 1 -1 1", "link b 1 1 1 -1", "link b 1 1 100001 1", "link b 1 1 1 100001", "link b 999999999999999999 1 1 1",
	} {
		checkTalk(t, wrong[:4]+" a 1 300 2 1 -> ok", wrong+" -> error bad", "chain 299 302 -> chain 299 302 safe", "link b -1 100 0 0 -> ok", wrong+" -> error bad", "chain 199 202 -> chain 199 202 safe")
	}
	// the first one is refused as a later one is
	checkTalk(t, "link a 0 1 1 1 -> error bad", "chain 0 0 -> error bad", "link a 1 1 1 1 -> ok", "chain 0 2 -> chain 0 2 safe")
}

func TestConsoleManyLinks(t *testing.T) {
	var turns []string
	for i := range 40 {
		turns = append(turns, fmt.Sprintf("link l%d %d %d 1 0 -> ok", i, 1-i%2*2, i))
	}
	checkTalk(t, append(turns, "chain -40 0 -> chain -40 0 safe", "link x 1 1 1 1 -> error bad", "chain -40 0 -> chain -40 0 safe", "chain -39 0 -> chain -40 0 unsafe")...)
}

func TestConsoleFit(t *testing.T) {
	checkTalk(t,
		"fit 200 203 198 201 -> fit 3 -1 5", "fit 200 203 198 200 -> fit 1 0 5", "fit 20 22 10 12 -> fit 1 8 12", "fit 10 12 12 14 -> fit 2 -4 0", "fit 10 12 13 14 -> fit 2 -4 -1", "fit 5 5 5 5 -> fit 1 0 0", "fit 0 0 0 0 -> fit 1 0 0", "fit 0 100000 0 100000 -> fit 3 -100000 100000",
		"fit 1 0 0 0 -> error bad", "fit 0 0 1 0 -> error bad", "fit -1 0 0 0 -> error bad", "fit 0 0 -1 0 -> error bad", "fit 0 100001 0 0 -> error bad", "fit 0 0 0 100001 -> error bad", "fit 999999999999999999 999999999999999999 0 0 -> error bad")
}

func TestConsoleNc(t *testing.T) {
	// no lines at all, lines without a word, remarks
	checkTalk(t, "nc|end -> acts 0", "nc||end -> acts 0", "nc|  |(x) ; y|end -> acts 0", "nc|end -> acts 0", "build -> part 0 0", "end -> error syntax")
	checkTalk(t, "nc|F1|G1 X3|end -> acts 1", "nc|X1|G1 X3|end -> error state 2", "end -> error syntax", " nc  |T1 S2 M3 X4|end -> acts 4")
	// the program of the README
	checkTalk(t, "nc|T1 F50 (plate)|G1 X4|M98 P7 L2|M30|O7 G91 Y#1|#1=#1+2 ; farther each time|M99|end -> acts 4")
	// an end that has blanks, or another one, is a line of the program
	for _, line := range []string{" end", "end ", "  end  ", "END", "end\r", "\tend", "end;", "end1", "en d"} {
		checkTalk(t, "nc|X1|"+line+"|X2|end -> error syntax 2", "end -> error syntax")
		checkTalk(t, "nc|X1|"+line+"|X2 -> error syntax")
	}
	checkTalk(t, "nc|(|end -> acts 0", "nc|;|end -> acts 0", "nc|(end|end -> acts 0", "nc|;end|end -> acts 0")
	// lines that would be the console's; a # is a setting there
	for _, line := range []string{"build", "param a 1", "save", "nc", "eval 1", "block a 0 0 0 1 1 1", "# a remark", "fit 0 0 0 0"} {
		checkTalk(t, "nc|"+line+"|end -> error syntax 1", "nc|X1|X2|"+line+"|build|end -> error syntax 3", "eval 1 -> value 1 0", "diff -> same")
	}
	checkTalk(t, "nc|#1=5|X#1|#1=#1-5|Y#1|end -> acts 2", "#1=5", "nc|#1=1/0|end -> error zero 1", "nc|X1|#2=0|#1=1/#2|end -> error zero 3")
	// blanks stay, and nothing hangs on them
	checkTalk(t, "nc|   X 1   Y 2   |\tG1\tF1\tX2|end -> acts 2", "nc|X1  Y|end -> error syntax 1")
}

// Each code of NcRun, and the line of the program, not of the text.
func TestConsoleNcCodes(t *testing.T) {
	calls := ""
	for i := range 9 {
		calls += fmt.Sprintf("|O%d M98 P%d", i, i+1)
	}
	for _, program := range []string{
		"|Q1 -> error syntax 1", "|X1||X -> error syntax 3", "|X1|X01 -> error syntax 2", "|N0 X1 -> error syntax 1", "|#21=1 -> error syntax 1", "|X1|X1 X1 -> error many 2", "|G0 G0 G0 G0 G0 G0 G0 G0 G0 G0 G0 G0 G0 -> error many 1",
		"|M98 P1 L0|O1 M99 -> error range 1", "|X1|F0 -> error range 2", "|S-1 -> error range 1", "|T10 -> error range 1", "|X100000|G91 X1 -> error range 2",
		"|X1|G1 X2 -> error state 2", "|X1|X2|M99 -> error state 3", "|G2 -> error kind 1", "|G81 R1 -> error name 1", "|X1|M98 -> error name 2", "|M98 P1 -> error none 1",
		"|O1|M98 P1 -> error many 2", "|M98 P5|M30|O5 M98 P5 -> error many 3", "|M98 P1 L999|M30|O1 X1|M99 -> acts 999", "|M98 P1 L1000|M30|O1 X1|M99 -> error full 4", "|M98 P1 L999999999999999999|M30|O1|M99 -> error full 4",
	} {
		program, says, _ := strings.Cut(program, " -> ")
		checkTalk(t, "nc"+program+"|end -> "+says, "# behind it", "", "nc"+program+"|end -> "+says, "nc|end -> acts 0")
	}
	checkTalk(t, "nc|M98 P0|M30"+calls+"|O9|end -> error many 10", "nc|M98 P1|M30"+calls+"|O9 M99|end -> error many 11")
}

// Without an end all lines that follow are the program's, and one error is all
// that is said of them.
func TestConsoleNcWithoutAnEnd(t *testing.T) {
	checkTalk(t, "nc -> error syntax")
	checkTalk(t, "nc| -> error syntax")
	checkTalk(t, "save -> ok", "nc|X1|build|end 1|eval 1|nc|save| end -> error syntax")
	checkTalk(t, "nc|X1|end -> acts 1", "nc|X1|X2 -> error syntax")
	checkTalk(t, "nc|nc|end -> error syntax 1", "end -> error syntax", "nc|nc -> error syntax")
	// with a word more it is no machine program, and the next lines are the console's
	checkTalk(t, "nc 1 -> error syntax", "eval 1 -> value 1 0", "end -> error syntax", "nc end -> error syntax", "end -> error syntax", "NC -> error syntax", "end -> error syntax", "#nc", "eval 2 -> value 2 0")
	for _, text := range []string{"nc", "nc\n", "nc\n\n", "nc\nX1", "nc\nX1\n", "nc\nend\r", "nc\nend ", "nc\n end"} {
		if got, code := checkConsole(t, text); got != "error syntax\n" || code != impl.OK {
			t.Errorf("Console(%q): %q %d", text, got, code)
		}
	}
	for _, text := range []string{"nc\nend", "nc\nend\n", "nc \nend", "\nnc\n\nend\n"} {
		if got, code := checkConsole(t, text); got != "acts 0\n" || code != impl.OK {
			t.Errorf("Console(%q): %q %d", text, got, code)
		}
	}
}
