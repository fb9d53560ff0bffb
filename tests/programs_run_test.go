package tests

import (
	"fmt"
	"slices"
	"strconv"
	"strings"
	"testing"

	"loop.example/g00056/impl"
)

// actsOf reads acts told in short: f1,2,3 is a fast move, g1,2,3 another one,
// T, S and M with their numbers are tools, spins and other codes.
func actsOf(told string) []impl.Act {
	var acts []impl.Act
	for _, text := range strings.Fields(told) {
		var a impl.Act
		switch text[0] {
		case 'f', 'g':
			a.Kind, a.Fast = impl.AcMove, text[0] == 'f'
			if n, err := fmt.Sscanf(text[1:], "%d,%d,%d", &a.X, &a.Y, &a.Z); n != 3 || err != nil {
				panic("no act: " + text)
			}
		default:
			a.Kind = []int{impl.AcTool, impl.AcSpin, impl.AcCode}[strings.IndexByte("TSM", text[0])]
			a.Num, _ = strconv.Atoi(text[1:])
		}
		acts = append(acts, a)
	}
	return acts
}

// varsOf reads variables told in short: 1=5 3=-7, the others being 0.
func varsOf(told string) []int {
	vars := make([]int, 20)
	for _, text := range strings.Fields(told) {
		number, value, _ := strings.Cut(text, "=")
		n, _ := strconv.Atoi(number)
		vars[n-1], _ = strconv.Atoi(value)
	}
	return vars
}

func sameLog(a, b impl.NcLog) bool {
	return a.Code == b.Code && a.Line == b.Line && slices.Equal(a.Acts, b.Acts) && slices.Equal(a.Vars, b.Vars)
}

// checkStopped: a run with that code in that line, of a program with bars for
// bytes 10; as the words of the document lead to, too.
func checkStopped(t *testing.T, bars string, code, line int, acts, vars string) {
	t.Helper()
	want := impl.NcLog{Code: code, Line: line, Acts: actsOf(acts), Vars: varsOf(vars)}
	if got := impl.NcRun(program(bars)); !sameLog(got, want) {
		t.Errorf("NcRun(%.200q): %v, not %v", bars, got, want)
	}
	checkRunByWords(t, program(bars))
}

func checkRun(t *testing.T, bars, acts, vars string) {
	t.Helper()
	checkStopped(t, bars, impl.OK, 0, acts, vars)
}

type runCase struct {
	bars, acts, vars string
}

func checkRuns(t *testing.T, cases []runCase) {
	t.Helper()
	for _, c := range cases {
		checkRun(t, c.bars, c.acts, c.vars)
		checkRun(t, c.bars+"|", c.acts, c.vars)
	}
}

func TestMovesOfPrograms(t *testing.T) {
	checkRuns(t, []runCase{
		{"", "", ""}, {"|||", "", ""}, {"N5", "", ""}, {"(X1)|;X1", "", ""}, {"G0|G1|G90|G91|G80", "", ""}, {"R5 P6 L7 O8", "", ""}, {"F5", "", ""},
		// To places: what is not there stays; to where it is is a move, too.
		{"X1", "f1,0,0", ""}, {"Y-1", "f0,-1,0", ""}, {"Z2", "f0,0,2", ""}, {"X1 Y2 Z3", "f1,2,3", ""}, {"Z3 Y2 X1", "f1,2,3", ""}, {"X1|Y2|Z3|X0", "f1,0,0 f1,2,0 f1,2,3 f0,2,3", ""}, {"X0|X0 Y0 Z0", "f0,0,0 f0,0,0", ""}, {"X1 R9", "f1,0,0", ""},
		// By ways.
		{"G91 X1|X1 Y2|X-3 Z1", "f1,0,0 f2,2,0 f-1,2,1", ""}, {"X5 Y5|G91 X1|Y1|G90 X1|Y1", "f5,5,0 f6,5,0 f6,6,0 f1,6,0 f1,1,0", ""}, {"G91 X0", "f0,0,0", ""},
		// Fast and not.
		{"F1 G1 X1|X2|G0 X3|X4|G1 X5", "g1,0,0 g2,0,0 f3,0,0 f4,0,0 g5,0,0", ""}, {"F1|X1", "f1,0,0", ""}, {"G1|F1|G0|X1|G1|X2", "f1,0,0 g2,0,0", ""},
		// By what holds behind all G of the block, wherever they stand.
		{"F1 X1 G1", "g1,0,0", ""}, {"F1 G0 G1 X1", "g1,0,0", ""}, {"F1 G1 G0 X1", "f1,0,0", ""}, {"G1 X1 G0", "f1,0,0", ""}, {"X5|X1 G91", "f5,0,0 f6,0,0", ""}, {"X5|G91 G90 X1", "f5,0,0 f1,0,0", ""}, {"X5|G90 X1 G91", "f5,0,0 f6,0,0", ""}, {"F1 X5|X1 G0 G91 G1 G90 Y7", "f5,0,0 g1,7,0", ""},
		// The feed is set ahead of the move, wherever it stands, and stays.
		{"G1 X1 F1", "g1,0,0", ""}, {"X1 G1 F1|X2", "g1,0,0 g2,0,0", ""},
		// Variables.
		{"#1=5|X#1 Y#2|#1=#1+1|X#1", "f5,0,0 f6,0,0", "1=6"}, {"#1=91|#2=1|G#1 G#2 X#2 F#1|X1", "g1,0,0 g2,0,0", "1=91 2=1"},
	})
}

func TestToolsSpinsFeedsAndOthers(t *testing.T) {
	checkRuns(t, []runCase{
		{"T0", "T0", ""}, {"T9", "T9", ""}, {"T3|T3", "T3 T3", ""}, {"S0", "S0", ""}, {"S999999999999999999", "S999999999999999999", ""}, {"M0", "M0", ""}, {"M3 M4 M3", "M3 M4 M3", ""}, {"M-1 M97 M100 M31 M29 M999999999999999999", "M-1 M97 M100 M31 M29 M999999999999999999", ""}, {"#1=7|T#1 S#1 M#1", "S7 T7 M7", "1=7"},
		// F, S, T, each G, the move, each M: not as the block has them.
		{"M8 X1 G1 T2 S3 F4", "S3 T2 g1,0,0 M8", ""}, {"T2 S3", "S3 T2", ""}, {"M8 M9 X1 S3", "S3 f1,0,0 M8 M9", ""}, {"M1 G81 X2 R3 Z4 F1 T5 M6 S7", "S7 T5 f2,0,0 f2,0,3 g2,0,4 f2,0,3 M1 M6", ""},
		// What stands behind an end, whatever it is.
		{"X1|M30|X2 T10 G5 M99", "f1,0,0", ""}, {"M5 M30 M6 M98 M99|X9", "M5", ""}, {"X1 T1 M30 M30", "T1 f1,0,0", ""}, {"M30 M98", "", ""}, {"M30 M99", "", ""}, {"#1=30|M#1|X5", "", "1=30"}, {"M30|#1=4/0", "", ""},
	})
}

func TestSettingsWorkedOut(t *testing.T) {
	checkRuns(t, []runCase{
		{"#1=5", "", "1=5"}, {"#20=-5", "", "20=-5"}, {"#1=5|#1=6|#2=#1", "", "1=6 2=6"}, {"#1=#2", "", ""}, {"#1=7+9", "", "1=16"}, {"#1=7-9", "", "1=-2"}, {"#1=7*-9", "", "1=-63"}, {"#1=7--9", "", "1=16"}, {"#1=7+-9", "", "1=-2"}, {"#1=-7-9", "", "1=-16"}, {"#1=0*5", "", ""}, {"#1=0/5", "", ""},
		{"#1=7/2", "", "1=3"}, {"#1=-7/2", "", "1=-3"}, {"#1=7/-2", "", "1=-3"}, {"#1=-7/-2", "", "1=3"}, {"#1=1/2|#2=-1/2|#3=8/-2", "", "3=-4"}, {"#1=3|#1=#1*#1|#1=#1-#1|#2=#1+1", "", "2=1"}, {"N5 #1=3|N5 #2=#1/#1", "", "1=3 2=1"},
		{"#3=4|#4=#3*#3|#5=#4/#3|#6=#5-#4|#7=#6+#3", "", "3=4 4=16 5=4 6=-12 7=-8"},
	})
	// Sums, differences and products that wrap.
	const nines = "999999999999999999"
	big := 999999999999999999
	ten := 10
	for _, c := range []struct {
		bars string
		want int
	}{
		{"#1=" + nines + "*10", big * ten}, {"#1=" + nines + "*" + nines, big * big}, {"#1=-" + nines + "*" + nines, -big * big}, {"#1=" + nines + "+" + nines + "|#1=#1*5", 2 * big * (ten / 2)}, {"#1=" + nines + "*9|#1=#1+" + nines, big * ten}, {"#1=" + nines + "*-9|#1=#1-" + nines, -big * ten},
		{"#1=1|" + strings.Repeat("#1=#1*2|", 63), least}, {"#1=1|" + strings.Repeat("#1=#1*2|", 64), 0}, {"#1=1|" + strings.Repeat("#1=#1*2|", 63) + "#1=#1-1", greatest}, {"#1=1|" + strings.Repeat("#1=#1*2|", 63) + "#1=#1-1|#1=#1+1", least}, {"#1=1|" + strings.Repeat("#1=#1*2|", 63) + "#1=#1/-1", least}, {"#1=1|" + strings.Repeat("#1=#1*2|", 63) + "#1=#1*-1", least}, {"#1=1|" + strings.Repeat("#1=#1*2|", 63) + "#1=0-#1", least}, {"#1=1|" + strings.Repeat("#1=#1*2|", 63) + "#1=#1/#1", 1}, {"#1=1|" + strings.Repeat("#1=#1*2|", 63) + "#1=#1/3", least / 3},
	} {
		checkRun(t, c.bars, "", fmt.Sprintf("1=%d", c.want))
	}
	for _, c := range []struct {
		bars, vars string
		line       int
	}{{"#1=4/0", "", 1}, {"#1=0/0", "", 1}, {"#1=4|#1=#1/#2|X1", "1=4", 2}, {"#1=4|#2=3|#3=#1-#1|#1=#2/#3", "1=4 2=3", 4}} {
		checkStopped(t, c.bars, impl.ErrZero, c.line, "", c.vars)
	}
	checkStopped(t, "X1|M5|#1=1/0|X2", impl.ErrZero, 3, "f1,0,0 M5", "")
}

func TestCycles(t *testing.T) {
	const one, two = "f1,1,0 f1,1,2 g1,1,-3 f1,1,2 ", "f4,1,2 f4,1,2 g4,1,-3 f4,1,2 "
	checkRuns(t, []runCase{
		// Set here and ahead, with X or Y or both; Z alone does nothing.
		{"F5 G81 R2 Z-3 X1 Y1", one, ""}, {"F5 G81 R2 Z-3 X1 Y1|X4", one + two, ""}, {"F5|R2 X1 G81 Y1 Z-3|X4|X4", one + two + two, ""}, {"F5 G81 R2 Z-3", "", ""}, {"F5 G81 R2 Z-3|X1 Y1|X4", one + two, ""}, {"F5 G81 R2 Z-3|Y1", "f0,1,0 f0,1,2 g0,1,-3 f0,1,2", ""}, {"F5 G81 R2 Z-3|X0", "f0,0,0 f0,0,2 g0,0,-3 f0,0,2", ""},
		{"F5 G81 R2 Z-3|Z7|R7|M8|X1 Y1", "M8 " + one, ""}, {"F5 G81 R2 Z-3|X1 Y1 Z9 R9|X4 Z9", one + two, ""}, {"F5 G81 R2 Z-3||X1 Y1", one, ""},
		// Set once more.
		{"F5 G81 R2 Z-3 X1 Y1|G81 R5 Z5|X1", one + "f1,1,2 f1,1,5 g1,1,5 f1,1,5", ""}, {"F5 G81 R2 Z-3 G81 X1 Y1", one, ""}, {"F5 G80 G81 R2 Z-3 X1 Y1", one, ""},
		// Over, with a move in that block by its own words.
		{"F5 G81 R2 Z-3 X1 Y1|G80|X4|Z9", one + "f4,1,2 f4,1,9", ""}, {"F5 G81 R2 Z-3 X1 Y1|G80 X4 Z9", one + "f4,1,9", ""}, {"F5 G81 R2 Z-3 X1 Y1|Z9 G80", one + "f1,1,9", ""}, {"F5 G81 R2 Z-3 X1 Y1 G80|X4", "f1,1,-3 f4,1,-3", ""}, {"F5 G1 G81 G80 R2 Z-3", "g0,0,-3", ""}, {"Z5|G91 G81 R1 Z2 G80", "f0,0,5 f0,0,7", ""}, {"F5 G81 R2 Z-3|G80 G81 R0 Z0 X1", "f1,0,0 f1,0,0 g1,0,0 f1,0,0", ""},
		// G0 and G1 are kept, and change nothing in it.
		{"F5 G1 G81 R2 Z-3 X1 Y1|G0|X4|G80 X5", one + two + "f5,1,2", ""}, {"F5 G81 R2 Z-3 X1 Y1|G1|X4|G80 X5", one + two + "g5,1,2", ""},
		// R and Z are places, X and Y ways with 91.
		{"F5 X1 Y1 Z9|G91 G81 R2 Z-3 X1 Y1|X1|Y-1", "f1,1,9 f2,2,9 f2,2,2 g2,2,-3 f2,2,2 f3,2,2 f3,2,2 g3,2,-3 f3,2,2 f3,1,2 f3,1,2 g3,1,-3 f3,1,2", ""}, {"F5 X1 Z9|G81 R2 Z-3 X1 G91|G90 X1", "f1,0,9 f2,0,9 f2,0,2 g2,0,-3 f2,0,2 f1,0,2 f1,0,2 g1,0,-3 f1,0,2", ""},
		// Variables as they are where it is set.
		{"#1=2|#2=-3|F5 G81 R#1 Z#2|#1=7|#2=7|#3=1|X#3 Y#3", one, "1=7 2=7 3=1"},
	})
	for _, c := range []struct {
		bars       string
		code, line int
		acts       string
	}{
		{"F5 G81 R2", impl.ErrName, 1, ""}, {"F5 G81 Z2", impl.ErrName, 1, ""}, {"S1|G81 X1", impl.ErrName, 2, "S1"}, {"R2 Z2|G81", impl.ErrName, 2, "f0,0,2"}, {"F5 G81 R2 Z-3|X1 Y1|G81 R2", impl.ErrName, 3, one}, {"T1 G0 G81 X1 R1 M3", impl.ErrName, 1, "T1"},
		// No feed: as far as it goes.
		{"G81 R2 Z-3 X1 Y1", impl.ErrState, 1, "f1,1,0 f1,1,2"}, {"G81 R2 Z-3|X1 Y1 M5", impl.ErrState, 2, "f1,1,0 f1,1,2"}, {"G0 G81 R2 Z2|Y1", impl.ErrState, 2, "f0,1,0 f0,1,2"},
		// Places that are beyond, when they are gone to.
		{"F5 G81 R2 Z-3 X100001", impl.ErrRange, 1, ""}, {"F5 G81 R2 Z-3 Y-100001", impl.ErrRange, 1, ""}, {"F5 G81 R100001 Z-3|X1", impl.ErrRange, 2, "f1,0,0"}, {"F5 G81 R-100001 Z-3 X1", impl.ErrRange, 1, "f1,0,0"}, {"F5 G81 R2 Z100001 X1", impl.ErrRange, 1, "f1,0,0 f1,0,2"}, {"F5 G81 R2 Z-100001|X1", impl.ErrRange, 2, "f1,0,0 f1,0,2"}, {"G81 R2 Z-100001|X1", impl.ErrRange, 2, "f1,0,0 f1,0,2"},
	} {
		checkStopped(t, c.bars, c.code, c.line, c.acts, "")
	}
	checkRun(t, "F5 G81 R100001 Z-100001|Z100001|G80|X1", "f1,0,0", "")
	checkRun(t, "F5 G81 R100000 Z-100000 X100000 Y-100000", "f100000,-100000,0 f100000,-100000,100000 g100000,-100000,-100000 f100000,-100000,100000", "")
}

func TestCallsOfPrograms(t *testing.T) {
	checkRuns(t, []runCase{
		// Once and in rounds, blocks ahead of the call and behind it.
		{"M98 P1|M30|O1 X1|M99", "f1,0,0", ""}, {"M5|M98 P1|M6|M30|O1 M7|M8|M99", "M5 M7 M8 M6", ""}, {"M98 P1 L3|M6|M30|O1 M7|M99", "M7 M7 M7 M6", ""}, {"M98 P1 L1|M30|O1 M7 M99", "M7", ""}, {"G91|M98 P1 L4|M30|O1 X1|Y2|M99", "f1,0,0 f1,2,0 f2,2,0 f2,4,0 f3,4,0 f3,6,0 f4,6,0 f4,8,0", ""}, {"#1=1|M98 P5 L3|M98 P5|M30|O5|#1=#1*3|M99", "", "1=81"},
		{"#1=4|#2=7|M98 P#2 L#1|M30|O7|#3=#3+1|M99", "", "1=4 2=7 3=4"},
		// A sub-program ahead of the call, called never, or gone through as blocks are.
		{"M98 P2|M30|O1 M7|M99|O2 M8|M99", "M8", ""}, {"M5|M30|O1 M7|M99", "M5", ""}, {"O1 M7|O2 M8", "M7 M8", ""}, {"O1 M7|M98 P2|M30|O2 M8|M99", "M7 M8", ""},
		// O stands anywhere in its block, which is done; the block's other words too.
		{"M98 P1|M30|X1 O1 M7|M99 X2 M8", "f1,0,0 M7 f2,0,0 M8", ""}, {"X1 M98 P1 M8|M30|O1 M7|M99", "f1,0,0 M8 M7", ""}, {"M8 M98 P1 M9 T1|M30|O1 M7|M99", "T1 M8 M9 M7", ""}, {"M98 P1|M30|O1 M7 M99 M8|M9", "M7 M8", ""}, {"M98 P-5|M30|O-5 M7|M99", "M7", ""}, {"M98 P999999999999999999|M30|O999999999999999999 M7|M99", "M7", ""},
		// What holds goes in and comes out.
		{"F1 G1 G91|M98 P1 L2|X1|M30|O1 X2 G0|M99 G1", "f2,0,0 f4,0,0 g5,0,0", ""}, {"F1 G81 R1 Z2|M98 P1|X3|M30|O1 X4 G80|M99", "f4,0,0 f3,0,0", ""},
		// Within one another, rounds of rounds.
		{"M98 P1 L2|M30|O1 M7|M98 P2 L2|M9|M99|O2 M8|M99", "M7 M8 M8 M9 M7 M8 M8 M9", ""}, {"M98 P1|M30|O1|M98 P2|M98 P2|M99|O2|M98 P3|M98 P3|M99|O3 M5|M99", "M5 M5 M5 M5", ""}, {"M98 P1 L2|M98 P2 L3|M30|O1 M1|M98 P2|M99|O2 M2|M99", "M1 M2 M1 M2 M2 M2 M2", ""},
		// An O by a variable, as it is at the call; the first of two.
		{"#1=7|M98 P7|M30|O#1 M5|M99", "M5", "1=7"}, {"#1=7|M98 P7|#1=8|M98 P8|M30|O#1 M5|M99", "M5 M5", "1=8"}, {"#1=7|M98 P7 L3|M30|O#1 M5|#1=#1+1|M99", "M5 M5 M5", "1=10"}, {"#1=7|M98 P7 L2|M30|O7 M6|M99|O#1 M5", "M6 M6", "1=7"}, {"#1=7|M98 P7 L2|M30|O#1 M5|#1=8|M99|O7 M6|M99", "M5 M5", "1=8"}, {"M98 P1|M30|O1 M5|M99|O1 M6|M99", "M5", ""}, {"M98 P0|M30|O#1 M5|M99|O0 M6|M99", "M5", ""}, {"#1=1|M98 P0|M30|O#1 M5|M99|O0 M6|M99", "M6", "1=1"}, {"O0 M5|M98 P#1 M30", "M5", ""},
		// The block that the call is kept with is the next one then.
		{"M98 P1 L2 M99|M5|M30|O1 M6|M99", "M6 M5", ""}, {"M98 P1 M99|M5|M30|O1 M6|M99", "M5", ""}, {"M98 M98 P1|M5|M30|O1 M6|M99", "M6 M6 M5", ""}, {"M98 P1|M5|M30|O1 M6|M99 M98 P2|O2 M7|M99", "M6 M7 M5", ""}, {"M98 P1|M5|M30|O1 M98 P2|M6|M99|O2 M99 M99", "M5", ""}, {"M98 P1 L2|M5|M30|O1 M6|M98 P2 M99|M8|M99|O2 M7|M99", "M6 M8 M6 M8 M5", ""}, {"M98 P1 L3|M5|M30|O1 M6|M99 M99 M99", "M6 M5", ""}, {"M98 P1 M98 M99 M99 L1|M5|M30|O1 M6|M99", "M5", ""},
		// An end within a call, and at the block that was kept.
		{"M98 P1 L3|O1 M5", "M5", ""}, {"M98 P1 L3|M30|O1 M5 M30|M99", "M5", ""}, {"M98 P1|M30|O1 M5|M98 P2|M99|O2 M6 M30", "M5 M6", ""}, {"M98 P9|M30|O1 M5|M99|O9|M98 P1 L2", "M5 M5", ""}, {"M98 P9|M30|O9 M5|M98 P1|O1", "M5", ""},
		// P and L without a call.
		{"P1 L0 M5", "M5", ""}, {"P1 L-5", "", ""},
	})
}

func TestCallsThatCanNotBe(t *testing.T) {
	for _, c := range []struct {
		bars       string
		code, line int
		acts, vars string
	}{
		{"M98", impl.ErrName, 1, "", ""}, {"X1 M5 M98 M6 L0", impl.ErrName, 1, "f1,0,0 M5", ""}, {"O1|M5|M98 L1", impl.ErrName, 3, "M5", ""}, {"P1 O1|M98", impl.ErrName, 2, "", ""},
		{"M98 P1", impl.ErrNone, 1, "", ""}, {"M98 P1 L0", impl.ErrNone, 1, "", ""}, {"O2|M98 P1 O3", impl.ErrNone, 2, "", ""}, {"#1=7|M98 P7|#1=8|M98 P7|M30|O#1 M5|M99", impl.ErrNone, 4, "M5", "1=8"}, {"M98 P1|(O1)|;O1", impl.ErrNone, 1, "", ""}, {"M98 P1|N1|P1|X1", impl.ErrNone, 1, "", ""},
		{"M98 P1 L0|O1", impl.ErrRange, 1, "", ""}, {"M98 P1 L-1|O1", impl.ErrRange, 1, "", ""}, {"M98 P1 L#5|O1", impl.ErrRange, 1, "", ""}, {"M98 P1 L-999999999999999999|O1", impl.ErrRange, 1, "", ""},
		{"M99", impl.ErrState, 1, "", ""}, {"M5 M99 M6", impl.ErrState, 1, "M5", ""}, {"M98 P1|O1 M5|M99", impl.ErrState, 3, "M5 M5", ""}, {"M98 P1 L2|M30 (a)|O1 M99 M5 M99 M99 M99", impl.ErrState, 3, "M5", ""}, {"M98 P1 M99 M99|M30|O1", impl.ErrState, 1, "", ""},
		// Within eight others there is none.
		{"O1|M98 P1", impl.ErrMany, 2, "", ""}, {"M98 P1|M30|O1 M5|M98 P1 L5", impl.ErrMany, 4, "M5 M5 M5 M5 M5 M5 M5 M5", ""}, {"O1 M5 M98 P1 M6", impl.ErrMany, 1, "M5 M6 M5 M6 M5 M6 M5 M6 M5 M6 M5 M6 M5 M6 M5 M6 M5", ""}, {"O1|M98 M98 M98 M98 M98 M98 M98 M98 P1 M5|M98 P1", impl.ErrMany, 2, "M5", ""}, {"O1|M98 M98 M98 M98 M98 M98 M98 M98 M98 P1 M5", impl.ErrMany, 2, "", ""},
		{"#1=9|O1|#1=#1-1|M98 P1 L#1", impl.ErrRange, 4, "", ""}, {"#1=10|O1|#1=#1-1|M98 P1 L#1", impl.ErrMany, 4, "", "1=1"},
	} {
		checkStopped(t, c.bars, c.code, c.line, c.acts, c.vars)
	}
	// Eight within one another; a ninth, and a ninth where one is over.
	nest := func(deep int, inner string) string {
		bars := "M98 P1|M3|M30"
		for i := 1; i < deep; i++ {
			bars += fmt.Sprintf("|O%d|M98 P%d|M99", i, i+1)
		}
		return bars + fmt.Sprintf("|O%d M5|%sM99", deep, inner)
	}
	checkRun(t, nest(8, ""), "M5 M3", "")
	checkRun(t, nest(7, "M98 P30|M98 P30 L3|")+"|O30 M6|M99", "M5 M6 M6 M6 M6 M3", "")
	checkStopped(t, nest(9, ""), impl.ErrMany, 3+7*3+2, "", "")
	checkStopped(t, nest(8, "M98 P30|")+"|O30 M6|M99", impl.ErrMany, 3+7*3+2, "M5", "")
	checkRun(t, nest(8, "M99 M98 P30|")+"|O30 M6|M99", "M5 M6 M3", "")
}

func TestBoundsOfWords(t *testing.T) {
	for _, n := range []string{"0", "-1", "-999999999999999999", "#1"} {
		checkStopped(t, "M5|F"+n+" S1 T1 G5 X1 M6", impl.ErrRange, 2, "M5", "")
	}
	for _, n := range []string{"1", "2", "999999999999999999"} {
		checkRun(t, "G1 X3 F"+n, "g3,0,0", "")
	}
	checkStopped(t, "S-1 T1 F1", impl.ErrRange, 1, "", "")
	checkStopped(t, "S-999999999999999999", impl.ErrRange, 1, "", "")
	for _, n := range []string{"-1", "10", "11", "-999999999999999999", "999999999999999999"} {
		checkStopped(t, "X1|T"+n+" X1 S7 M6", impl.ErrRange, 2, "f1,0,0 S7", "")
	}
	for n := range 10 {
		checkRun(t, fmt.Sprintf("T%d", n), fmt.Sprintf("T%d", n), "")
	}
	for n := -3; n < 130; n++ {
		switch n {
		case 0, 1, 80, 90, 91:
			checkRun(t, fmt.Sprintf("G%d", n), "", "")
		case 81:
			checkRun(t, "G81 R1 Z1", "", "")
		default:
			checkStopped(t, fmt.Sprintf("T1|G%d R1 Z1 M5", n), impl.ErrKind, 2, "T1", "")
		}
		if n != 30 && n != 98 && n != 99 {
			checkRun(t, fmt.Sprintf("M%d P1 L1 R1", n), fmt.Sprintf("M%d", n), "")
		}
	}
	// Which comes first in a block.
	for _, c := range []struct {
		bars string
		code int
		acts string
	}{
		{"M99 X100001 G2 T10 S-1 F0", impl.ErrRange, ""}, {"M99 X100001 G2 T10 S1", impl.ErrRange, "S1"}, {"M99 X100001 G2 T9", impl.ErrKind, "T9"}, {"M99 X100001 G1", impl.ErrRange, ""}, {"M99 X1 G1", impl.ErrState, ""}, {"M99 X1", impl.ErrState, "f1,0,0"}, {"G81 G2", impl.ErrName, ""}, {"G2 G81", impl.ErrKind, ""}, {"G81 X1 R1 Z1 G2", impl.ErrKind, ""}, {"M5 M98 M99", impl.ErrName, "M5"}, {"M5 M99 M98", impl.ErrState, "M5"},
	} {
		checkStopped(t, c.bars, c.code, 1, c.acts, "")
	}
	checkStopped(t, "G1|Z1", impl.ErrState, 2, "", "")
	checkStopped(t, "X1|G1 X1", impl.ErrState, 2, "f1,0,0", "")
	checkStopped(t, "G1 G0 X1|G0 G1 X1", impl.ErrState, 2, "f1,0,0", "")
}

func TestPlacesByTheirBounds(t *testing.T) {
	for axis, letter := range "XYZ" {
		told := func(n int) string {
			at := [3]int{}
			at[axis] = n
			return fmt.Sprintf("f%d,%d,%d ", at[0], at[1], at[2])
		}
		for _, sign := range []int{1, -1} {
			for _, n := range []int{0, 1, 99999, 100000} {
				checkRun(t, fmt.Sprintf("%c%d", letter, sign*n), told(sign*n), "")
				checkRun(t, fmt.Sprintf("G91 %c%d|%c%d", letter, sign*n, letter, sign*(100000-n)), told(sign*n)+told(sign*100000), "")
				checkStopped(t, fmt.Sprintf("G91 %c%d|%c%d M5", letter, sign*n, letter, sign*(100001-n)), impl.ErrRange, 2, told(sign*n), "")
			}
			for _, n := range []int{100001, 200000, 1 << 32, 1<<32 + 1, 999999999999999999} {
				for _, way := range []string{"G90", "G91", "F1 G1", "G1"} {
					checkStopped(t, fmt.Sprintf("%s %c%d", way, letter, sign*n), impl.ErrRange, 1, "", "")
				}
			}
			checkRun(t, fmt.Sprintf("%c%d|G91 %c%d", letter, sign*100000, letter, sign*-200000), told(sign*100000)+told(sign*-100000), "")
			checkStopped(t, fmt.Sprintf("%c%d|G91 %c%d", letter, sign*100000, letter, sign*-200001), impl.ErrRange, 2, told(sign*100000), "")
			// Ways so long that the sum would wrap.
			for _, edge := range []string{"#1=#1-1", "#1=#1*1", "#1=#1+1", "#1=#1-100000", "#1=#1+100000", "#1=#1+200000"} {
				for _, way := range []string{"G90", "G91"} {
					text := program(fmt.Sprintf("%c%d|#1=1|", letter, sign*100000) + strings.Repeat("#1=#1*2|", 63) + edge + "|" + fmt.Sprintf("%s %c#1", way, letter))
					got := impl.NcRun(text)
					if got.Code != impl.ErrRange || got.Line != 67 || !slices.Equal(got.Acts, actsOf(told(sign*100000))) {
						t.Error("NcRun", edge, way, string(letter), sign, got)
					}
					checkRunByWords(t, text)
				}
			}
		}
	}
}

func TestStepsOfPrograms(t *testing.T) {
	// A call, two blocks a round, and an end.
	for _, c := range []struct {
		rounds, code, line int
	}{{1, impl.OK, 0}, {998, impl.OK, 0}, {999, impl.OK, 0}, {1000, impl.ErrFull, 4}, {1001, impl.ErrFull, 4}, {5000, impl.ErrFull, 4}, {999999999999999999, impl.ErrFull, 4}} {
		checkStopped(t, fmt.Sprintf("M98 P1 L%d|M30|O1|M99", c.rounds), c.code, c.line, "", "")
	}
	// One block a round; one block more ahead of all.
	checkRun(t, "M98 P1 L1998|M30|O1 M99", "", "")
	checkStopped(t, "M98 P1 L1999|M30|O1 M99", impl.ErrFull, 2, "", "")
	checkStopped(t, "M98 P1 L2000|M30|O1 M99", impl.ErrFull, 3, "", "")
	checkStopped(t, "|M98 P1 L1998|M30|O1 M99", impl.ErrFull, 3, "", "")
	// The end of the text, just behind the last step.
	const tail = "M98 P3|M30|O1|M99|O3|M98 P1 L998"
	checkRun(t, tail, "", "")
	checkRun(t, tail+"||", "", "")
	checkStopped(t, tail+"||M5", impl.ErrFull, 8, "", "")
	checkStopped(t, tail+"|| |", impl.ErrFull, 8, "", "")
	// What was done ahead: acts and variables of 2000 blocks.
	checkStopped(t, "M98 P1 L5000|O1|#1=#1+1|M99", impl.ErrFull, 3, "", "1=666")
	checkStopped(t, "M98 P1 L5000|O1|M99|#1=#1+1", impl.ErrFull, 3, "", "")
	checkStopped(t, "M98 P1 L5000|O1 M5 M99", impl.ErrFull, 2, strings.Repeat("M5 ", 1999), "")
	// As many blocks as can be, gone through several times.
	long := "M98 P1 L4\nO1 M7\n" + strings.Repeat("\n", 497) + "M99\n"
	if got := impl.NcRun(long); got.Code != impl.ErrFull || got.Line != 5 || !slices.Equal(got.Acts, actsOf(strings.Repeat("M7 ", 5))) {
		t.Error("NcRun of all blocks", got)
	}
	checkRunByWords(t, long)
	all := strings.Repeat("M7 M7 M7 M7 M7 M7 M7 M7 M7 M7 M7 M7\n", 500)
	if got := impl.NcRun(all); got.Code != impl.OK || got.Line != 0 || len(got.Acts) != 6000 {
		t.Error("NcRun of many acts", got.Code, len(got.Acts))
	}
}
