package tests

import (
	"fmt"
	"math/rand"
	"regexp"
	"slices"
	"strconv"
	"strings"
	"testing"

	"loop.example/g00056/impl"
)

// A bar stands for a byte 10 in the programs of these tests.
func program(bars string) string { return strings.ReplaceAll(bars, "|", "\n") }

func word(letter rune, n int) impl.Word { return impl.Word{Letter: int(letter), Num: n} }

func wordBy(letter rune, variable int) impl.Word {
	return impl.Word{Letter: int(letter), Var: true, Num: variable}
}

func plain(n int) impl.Word { return word(0, n) }

func variable(n int) impl.Word { return wordBy(0, n) }

func wordsOf(words ...impl.Word) impl.Block { return impl.Block{Words: words} }

func setTo(set int, a impl.Word) impl.Block { return impl.Block{Set: set, A: a} }

func setBy(set int, a impl.Word, op rune, b impl.Word) impl.Block {
	return impl.Block{Set: set, A: a, Op: int(op), B: b}
}

func withN(n int, b impl.Block) impl.Block {
	b.N = n
	return b
}

func blocksOf(list ...impl.Block) []impl.Block { return list }

func sameBlocks(a, b []impl.Block) bool {
	return slices.EqualFunc(a, b, func(x, y impl.Block) bool {
		return x.N == y.N && slices.Equal(x.Words, y.Words) && x.Set == y.Set && x.Op == y.Op && x.A == y.A && x.B == y.B
	})
}

const (
	variableForm = `(?:1[0-9]|20|[1-9])`
	valueForm    = `(?:0|-?[1-9][0-9]{0,17}|#` + variableForm + `)`
	wordForm     = `[GMXYZRFSTPLO]` + valueForm
)

var (
	leftOutForm = regexp.MustCompile(`;[^\n]*|\([^)]*(?:\)|$)|[ \t]`)
	lineForm    = regexp.MustCompile(`^(?:N([1-9][0-9]{0,4}))?(?:((?:` + wordForm + `)*)|#(` + variableForm + `)=(` + valueForm + `)(?:([-+*/])(` + valueForm + `))?)$`)
	wordsForm   = regexp.MustCompile(wordForm)
)

// exactValue: of a text that is one; of none it is zero.
func exactValue(text string) impl.Word {
	n, _ := strconv.Atoi(strings.TrimPrefix(text, "#"))
	return impl.Word{Var: strings.HasPrefix(text, "#"), Num: n}
}

// exactBlock reads a line by the forms above.
func exactBlock(line string) (impl.Block, int) {
	found := lineForm.FindStringSubmatch(leftOutForm.ReplaceAllString(line, ""))
	if found == nil {
		return impl.Block{}, impl.ErrSyntax
	}
	block := impl.Block{N: exactValue(found[1]).Num, Set: exactValue(found[3]).Num, A: exactValue(found[4]), B: exactValue(found[6])}
	for _, op := range found[5] {
		block.Op = int(op)
	}
	for _, text := range wordsForm.FindAllString(found[2], -1) {
		w := exactValue(text[1:])
		w.Letter = int(text[0])
		block.Words = append(block.Words, w)
	}
	for _, letter := range "XYZRFSTPLO" {
		if strings.Count(found[2], string(letter)) > 1 {
			return impl.Block{}, impl.ErrMany
		}
	}
	if len(block.Words) > 12 {
		return impl.Block{}, impl.ErrMany
	}
	return block, impl.OK
}

func exactBlocks(text string) ([]impl.Block, int, int) {
	if len(text) > 65536 {
		return nil, impl.ErrLong, 0
	}
	lines := strings.SplitAfter(text, "\n")
	lines = slices.DeleteFunc(lines, func(line string) bool { return line == "" })
	if len(lines) > 500 {
		return nil, impl.ErrMany, 501
	}
	var blocks []impl.Block
	for i, line := range lines {
		block, code := exactBlock(strings.TrimSuffix(line, "\n"))
		if code != impl.OK {
			return nil, code, i + 1
		}
		blocks = append(blocks, block)
	}
	return blocks, impl.OK, 0
}

func checkParsed(t *testing.T, text string, want ...impl.Block) {
	t.Helper()
	if got, code, line := impl.NcParse(text); code != impl.OK || line != 0 || !sameBlocks(got, want) {
		t.Errorf("NcParse(%.200q): %s %d in %d, not %s", text, short(got), code, line, short(want))
	}
	checkParsedByForms(t, text)
}

// checkUnparsed: no blocks; and a run answers nothing else either.
func checkUnparsed(t *testing.T, text string, code, line int) {
	t.Helper()
	if got, gotCode, gotLine := impl.NcParse(text); gotCode != code || gotLine != line || len(got) != 0 {
		t.Errorf("NcParse(%.200q): %s %d in %d, not %d in %d", text, short(got), gotCode, gotLine, code, line)
	}
	if got := impl.NcRun(text); got.Code != code || got.Line != line || len(got.Acts) != 0 || len(got.Vars) != 0 {
		t.Errorf("NcRun(%.200q): %s, not %d in %d", text, short(got), code, line)
	}
	checkParsedByForms(t, text)
}

func checkParsedByForms(t *testing.T, text string) int {
	t.Helper()
	got, code, line := impl.NcParse(text)
	want, wantCode, wantLine := exactBlocks(text)
	if code != wantCode || line != wantLine || !sameBlocks(got, want) {
		t.Fatalf("NcParse(%.200q): %s %d in %d, not %s %d in %d", text, short(got), code, line, short(want), wantCode, wantLine)
	}
	return code
}

func TestProgramLimits(t *testing.T) {
	if impl.MaxVars != 20 || impl.MaxWords != 12 || impl.MaxBlocks != 500 || impl.MaxSteps != 2000 || impl.MaxCalls != 8 {
		t.Error("limits", impl.MaxVars, impl.MaxWords, impl.MaxBlocks, impl.MaxSteps, impl.MaxCalls)
	}
	if impl.AcMove != 1 || impl.AcTool != 2 || impl.AcSpin != 3 || impl.AcCode != 4 {
		t.Error("kinds of acts", impl.AcMove, impl.AcTool, impl.AcSpin, impl.AcCode)
	}
}

func TestProgramsParsed(t *testing.T) {
	x1 := wordsOf(word('X', 1))
	for _, c := range []struct {
		bars string
		want []impl.Block
	}{
		// Each letter, with numbers and with variables.
		{"G1X2Y3Z-4R5F6S7T8P9L10O11", blocksOf(wordsOf(word('G', 1), word('X', 2), word('Y', 3), word('Z', -4), word('R', 5), word('F', 6), word('S', 7), word('T', 8), word('P', 9), word('L', 10), word('O', 11)))},
		{"O-1 L-2 P-3 T-4 S-5 F-6 R-7 Z-8 Y-9 X-10 M-11 G-12", blocksOf(wordsOf(word('O', -1), word('L', -2), word('P', -3), word('T', -4), word('S', -5), word('F', -6), word('R', -7), word('Z', -8), word('Y', -9), word('X', -10), word('M', -11), word('G', -12)))},
		{"G#1X#2Y#3Z#4R#5F#6S#7T#8P#9L#10O#11M#12", blocksOf(wordsOf(wordBy('G', 1), wordBy('X', 2), wordBy('Y', 3), wordBy('Z', 4), wordBy('R', 5), wordBy('F', 6), wordBy('S', 7), wordBy('T', 8), wordBy('P', 9), wordBy('L', 10), wordBy('O', 11), wordBy('M', 12)))},
		{"X#20Y0", blocksOf(wordsOf(wordBy('X', 20), word('Y', 0)))},
		// Settings without a sign and with each one; the second value may have a sign of its own.
		{"#1=5", blocksOf(setTo(1, plain(5)))}, {"#20=-5", blocksOf(setTo(20, plain(-5)))}, {"#3=#4", blocksOf(setTo(3, variable(4)))}, {"#1=0", blocksOf(setTo(1, plain(0)))},
		{"#1=5+6", blocksOf(setBy(1, plain(5), '+', plain(6)))}, {"#1=5-6", blocksOf(setBy(1, plain(5), '-', plain(6)))}, {"#1=5*6", blocksOf(setBy(1, plain(5), '*', plain(6)))}, {"#1=5/6", blocksOf(setBy(1, plain(5), '/', plain(6)))},
		{"#2=-5+-6", blocksOf(setBy(2, plain(-5), '+', plain(-6)))}, {"#2=-5--6", blocksOf(setBy(2, plain(-5), '-', plain(-6)))}, {"#2=#2--6", blocksOf(setBy(2, variable(2), '-', plain(-6)))}, {"#2=7-#2", blocksOf(setBy(2, plain(7), '-', variable(2)))}, {"#11=#12/#13", blocksOf(setBy(11, variable(12), '/', variable(13)))}, {"#1=0*0", blocksOf(setBy(1, plain(0), '*', plain(0)))},
		// Numbers of blocks, ahead of words, of settings and of nothing.
		{"N1", blocksOf(withN(1, impl.Block{}))}, {"N10X1", blocksOf(withN(10, x1))}, {"N10 #1=5", blocksOf(withN(10, setTo(1, plain(5))))}, {"N99999#1=#2*3", blocksOf(withN(99999, setBy(1, variable(2), '*', plain(3))))}, {"N7G0G1", blocksOf(withN(7, wordsOf(word('G', 0), word('G', 1))))},
		{"N10X1|N10X1|N5X1", blocksOf(withN(10, x1), withN(10, x1), withN(5, x1))},
		// Lines: ended or not, empty ones, none at all.
		{"", nil}, {"|", blocksOf(impl.Block{})}, {"||", blocksOf(impl.Block{}, impl.Block{})}, {" ", blocksOf(impl.Block{})}, {" |", blocksOf(impl.Block{})}, {"| ", blocksOf(impl.Block{}, impl.Block{})}, {"X1", blocksOf(x1)}, {"X1|", blocksOf(x1)}, {"X1||", blocksOf(x1, impl.Block{})}, {"|X1", blocksOf(impl.Block{}, x1)}, {"X1|X1", blocksOf(x1, x1)}, {";", blocksOf(impl.Block{})}, {"()|(", blocksOf(impl.Block{}, impl.Block{})},
	} {
		checkParsed(t, program(c.bars), c.want...)
	}
}

func TestRemarksLeftOut(t *testing.T) {
	x1, xy := wordsOf(word('X', 1)), wordsOf(word('X', 1), word('Y', 2))
	for _, c := range []struct {
		bars string
		want []impl.Block
	}{
		{"X1;Y2", blocksOf(x1)}, {"X1 ; Y2 ; Z3", blocksOf(x1)}, {";X1", blocksOf(impl.Block{})}, {"X1;", blocksOf(x1)}, {"X1;;", blocksOf(x1)},
		{"X1(Z9)Y2", blocksOf(xy)}, {"(Z9)X1Y2", blocksOf(xy)}, {"X1Y2(Z9)", blocksOf(xy)}, {"X1()Y2", blocksOf(xy)}, {"X1(", blocksOf(x1)}, {"X1(Y2", blocksOf(x1)},
		// Two in a line, one within another's bounds.
		{"(a)X1(b)Y2(c)", blocksOf(xy)}, {"X1(a)(b)Y2", blocksOf(xy)}, {"X1(a(b)Y2", blocksOf(xy)}, {"X1(a((b)Y2(", blocksOf(xy)}, {"X1(a)Y2(b", blocksOf(xy)}, {"X1(a)Y2;(b)Z3", blocksOf(xy)},
		// Whichever begins first.
		{"X1(;)Y2", blocksOf(xy)}, {"X1(a;b)Y2;c", blocksOf(xy)}, {"X1(;Y2", blocksOf(x1)}, {"X1;(a)Y2", blocksOf(x1)}, {"X1;(a|Y2", blocksOf(x1, wordsOf(word('Y', 2)))}, {"X1;)", blocksOf(x1)}, {"X1(;|Y2", blocksOf(x1, wordsOf(word('Y', 2)))},
		// What stands in a remark is no matter.
		{"X1(\x00\xff\rд#N)Y2;\x00\xff\rд#N", blocksOf(xy)}, {"(N5)X1", blocksOf(x1)}, {"(#1=)X1Y2(X3)", blocksOf(xy)},
		// Within what belongs together.
		{"X(a)1(b)Y(c)2", blocksOf(xy)}, {"X1(a)2", blocksOf(wordsOf(word('X', 12)))}, {"X-(a)1", blocksOf(wordsOf(word('X', -1)))}, {"X#(a)1(b)2", blocksOf(wordsOf(wordBy('X', 12)))}, {"N(a)1(b)0(c)#(d)2(e)=(f)-(g)3(h)*(i)#(j)4(k)", blocksOf(withN(10, setBy(2, plain(-3), '*', variable(4))))},
	} {
		checkParsed(t, program(c.bars), c.want...)
	}
	// A parenthesis ends with its line, and one that closes nothing can not stand.
	checkUnparsed(t, program("X1(Y2|X1Y2)"), impl.ErrSyntax, 2)
	checkUnparsed(t, "X1)", impl.ErrSyntax, 1)
	checkUnparsed(t, "X1(a))Y2", impl.ErrSyntax, 1)
	checkUnparsed(t, ")", impl.ErrSyntax, 1)
	checkUnparsed(t, "X(1)", impl.ErrSyntax, 1)
	checkUnparsed(t, "X;1", impl.ErrSyntax, 1)
}

// spread puts something between any two bytes of a text, ahead and behind.
func spread(text, between string) string {
	return between + strings.Join(strings.Split(text, ""), between) + between
}

func TestBlanksStandAnywhere(t *testing.T) {
	for _, text := range []string{"N10G1X-25Y#13Z0", "N99999#20=-123*#17", "#1=#2--30", "M98P12L3", "", "N5", "#9=100/25"} {
		want, _ := exactBlock(text)
		for _, blank := range []string{"", " ", "\t", "  ", "\t\t", " \t", "\t ", "(;)", " ( ) "} {
			checkParsed(t, spread(text, blank)+"\n", want)
			checkParsed(t, spread(text, blank)+";", want)
			checkParsed(t, blank+text+"\n"+text+blank+"\n"+blank, append(blocksOf(want, want), make([]impl.Block, min(1, len(blank)))...)...)
		}
	}
	checkParsed(t, "X1 2", wordsOf(word('X', 12)))
	checkParsed(t, "X - 1\t2", wordsOf(word('X', -12)))
	checkUnparsed(t, "X0 1", impl.ErrSyntax, 1)
	for b := range 256 { // no other byte is a blank
		if strings.ContainsRune(" \t\n(;", rune(b)) {
			continue
		}
		for _, line := range []string{"X1" + string([]byte{byte(b)}) + "Y2", "X" + string([]byte{byte(b)}) + "1", string([]byte{byte(b)}) + "X1", "X1" + string([]byte{byte(b)})} {
			checkParsedByForms(t, line)
			if code := checkParsedByForms(t, line+"\n"+line); code == impl.OK && !strings.ContainsRune("0123456789GMYZRFSTPLON-#", rune(b)) {
				t.Errorf("NcParse(%q) is read", line)
			}
		}
	}
}

func TestNumbersInWords(t *testing.T) {
	const eighteen = 999999999999999999
	for _, letter := range "GMXYZRFSTPLO" {
		for _, n := range []int{0, 1, -1, 9, 10, -10, 100000, eighteen, -eighteen, 100000000000000000, -100000000000000000} {
			checkParsed(t, string(letter)+strconv.Itoa(n), wordsOf(word(letter, n)))
			checkParsed(t, "#1="+strconv.Itoa(n)+"+"+strconv.Itoa(n), setBy(1, plain(n), '+', plain(n)))
		}
		for _, wrong := range []string{"", "-", "+1", "--1", "-0", "00", "01", "-01", "-00", "007", "1.5", "1-", "0x1", "1e3", "٣", "1000000000000000000", "-1000000000000000000", "9223372036854775807", "-9223372036854775808", "9223372036854775808", "18446744073709551617", "1844674407370955161600000", "0000000000000000001", strings.Repeat("9", 60000)} {
			checkUnparsed(t, string(letter)+wrong, impl.ErrSyntax, 1)
			checkUnparsed(t, "G1"+string(letter)+wrong+"M1", impl.ErrSyntax, 1)
			checkUnparsed(t, "#1="+wrong, impl.ErrSyntax, 1)
			checkUnparsed(t, "#1=#2+"+wrong, impl.ErrSyntax, 1)
		}
		checkUnparsed(t, string(letter)+"1-2", impl.ErrSyntax, 1)
		for n := 1; n <= impl.MaxVars; n++ {
			checkParsed(t, string(letter)+"#"+strconv.Itoa(n), wordsOf(wordBy(letter, n)))
		}
		for _, wrong := range []string{"", "0", "21", "22", "100", "-1", "-0", "01", "020", "+1", "#1", "X1", "199999999999999999", "18446744073709551617"} {
			checkUnparsed(t, string(letter)+"#"+wrong, impl.ErrSyntax, 1)
			checkUnparsed(t, "#1=#"+wrong, impl.ErrSyntax, 1)
			checkUnparsed(t, "#1=1*#"+wrong, impl.ErrSyntax, 1)
			checkUnparsed(t, "#"+wrong+"=1", impl.ErrSyntax, 1)
		}
	}
	for n := 1; n <= impl.MaxVars; n++ {
		checkParsed(t, fmt.Sprintf("#%d=#%d/#%d", n, 21-n, n), setBy(n, variable(21-n), '/', variable(n)))
	}
}

func TestNumbersOfBlocks(t *testing.T) {
	for _, n := range []int{1, 2, 9, 10, 99, 12345, 99998, 99999} {
		for _, behind := range []string{"", "X1", "#1=2", "G0 M30"} {
			want, _ := exactBlock(behind)
			checkParsed(t, "N"+strconv.Itoa(n)+" "+behind, withN(n, want))
		}
	}
	for _, wrong := range []string{"N", "N0", "N-1", "N-0", "N100000", "N99999999999", "N999999999999999999", "N1000000000000000000", "N18446744073709551617", "N01", "N00001", "N+1", "N#1", "N1.5", "N1N2", "N1N1", "NX1", "N=1"} {
		checkUnparsed(t, wrong, impl.ErrSyntax, 1)
		checkUnparsed(t, wrong+"X1", impl.ErrSyntax, 1)
		checkUnparsed(t, wrong+"#1=1", impl.ErrSyntax, 1)
	}
	for _, elsewhere := range []string{"X1N5", "G1 N5 X1", "#1=2N5", "#1=2+3 N5", "N5X1N5", "#N5", "X#N5"} {
		checkUnparsed(t, elsewhere, impl.ErrSyntax, 1)
	}
}

func TestLinesThatAreNoBlocks(t *testing.T) {
	for _, wrong := range []string{
		"q", "x1", "g0", "m30", "n5", "A1", "B1", "C1", "D1", "E1", "H1", "I1", "J1", "K1", "Q1", "U1", "V1", "W1", "X", "1", "-1", "#", "=", "+", "*", "/", "-", "5X1", "X1 5 Y", "X1=5", "X1,Y1", "%", "X1\r", "\r", "\x00", "X1\x00", "\xff", "Х1", "X1Я", "X1 X", "XX1", "X##1",
		"#1", "#1=", "#1=#", "#=1", "#1==1", "#1=1+", "#1=1+2+3", "#1=1-2-3", "#1=1*", "#1=+1", "#1=1++1", "#1=--1", "#1=1---1", "#1=1%2", "#1=1 X1", "#1=X1", "#1=1+X1", "#1=#2#3", "#1=1=2", "X1#1=1", "G0#1=2", "#1=1#2=2", "=1", "#1+1", "#1=(1)", "#1=1+(1)", "#1;=1",
	} {
		checkUnparsed(t, wrong, impl.ErrSyntax, 1)
		checkUnparsed(t, "N99999"+wrong+"\n", impl.ErrSyntax, 1)
		checkUnparsed(t, "X1\n\n"+wrong+"\nq\n", impl.ErrSyntax, 3)
	}
}

func TestWordsOfABlock(t *testing.T) {
	// Twelve words, one more; N is none of them.
	twelve := wordsOf(slices.Repeat([]impl.Word{word('G', 0), word('M', 3)}, 6)...)
	line := strings.Repeat("G0 M3 ", 6)
	checkParsed(t, line, twelve)
	checkParsed(t, "N1 "+line+"(G0)", withN(1, twelve))
	checkUnparsed(t, line+"G0", impl.ErrMany, 1)
	checkUnparsed(t, "N1 "+line+"X1", impl.ErrMany, 1)
	checkUnparsed(t, "M1\n"+strings.Repeat("M1", 20000), impl.ErrMany, 2)
	checkParsed(t, "X1Y1Z1R1F1S1T1P1L1O1G1M1", wordsOf(word('X', 1), word('Y', 1), word('Z', 1), word('R', 1), word('F', 1), word('S', 1), word('T', 1), word('P', 1), word('L', 1), word('O', 1), word('G', 1), word('M', 1)))
	checkUnparsed(t, "X1Y1Z1R1F1S1T1P1L1O1G1M1G1", impl.ErrMany, 1)
	for _, letter := range "GMXYZRFSTPLO" {
		once := string(letter) + "1"
		for _, twice := range []string{once + once, once + string(letter) + "#1", once + "G0M0" + once, "N3" + once + "G7" + once + "G9", "G0M0G0M0G0M0G0M0G0M0" + once + once} {
			if letter == 'G' || letter == 'M' {
				block, _ := exactBlock(twice)
				checkParsed(t, twice, block)
				continue
			}
			checkUnparsed(t, twice, impl.ErrMany, 1)
			// That it is no block by its words is ahead.
			checkUnparsed(t, twice+"q", impl.ErrSyntax, 1)
			checkUnparsed(t, twice+"Y", impl.ErrSyntax, 1)
			checkUnparsed(t, "X01"+twice, impl.ErrSyntax, 1)
			checkUnparsed(t, twice+"G00", impl.ErrSyntax, 1)
			checkParsed(t, "("+twice+")"+once, wordsOf(word(letter, 1)))
		}
	}
	checkUnparsed(t, line+"G0q", impl.ErrSyntax, 1)
	checkUnparsed(t, line+"G0 N5", impl.ErrSyntax, 1)
}

func TestTheFirstLineAtFault(t *testing.T) {
	for _, c := range []struct {
		bars       string
		code, line int
	}{
		{"X1|q|X1X1", impl.ErrSyntax, 2}, {"X1|X1X1|q", impl.ErrMany, 2}, {"X1X1|q", impl.ErrMany, 1}, {"q|X1X1", impl.ErrSyntax, 1}, {"|||q|q", impl.ErrSyntax, 4}, {"||||X1X1", impl.ErrMany, 5}, {"X1|X1|X1|", impl.OK, 0}, {";q|(q|q", impl.ErrSyntax, 3},
	} {
		if c.code == impl.OK {
			checkParsed(t, program(c.bars), wordsOf(word('X', 1)), wordsOf(word('X', 1)), wordsOf(word('X', 1)))
			continue
		}
		checkUnparsed(t, program(c.bars), c.code, c.line)
		checkUnparsed(t, program(c.bars+"|"), c.code, c.line)
	}
}

func TestManyLines(t *testing.T) {
	for _, line := range []string{"", "X1", "#1=2", "N7", ";", "(q", " "} {
		want, _ := exactBlock(line)
		for _, count := range []int{1, 499, 500} {
			text := strings.Repeat(line+"\n", count)
			checkParsed(t, text, slices.Repeat(blocksOf(want), count)...)
			checkParsed(t, text[:len(text)-1], slices.Repeat(blocksOf(want), count-max(0, 1-len(line)))...)
		}
		for _, count := range []int{501, 502, 4097} {
			text := strings.Repeat(line+"\n", count)
			checkUnparsed(t, text, impl.ErrMany, 501)
			checkUnparsed(t, "q"+text, impl.ErrMany, 501)
			checkUnparsed(t, text+"X1X1", impl.ErrMany, 501)
		}
		full := strings.Repeat(line+"\n", 500)
		checkUnparsed(t, full+" ", impl.ErrMany, 501)
		checkUnparsed(t, full+";", impl.ErrMany, 501)
		checkUnparsed(t, full+"\n", impl.ErrMany, 501)
		checkUnparsed(t, "q\n"+strings.Repeat(line+"\n", 499), impl.ErrSyntax, 1)
		checkUnparsed(t, strings.Repeat(line+"\n", 499)+"X1X1\n", impl.ErrMany, 500)
		checkUnparsed(t, strings.Repeat(line+"\n", 499)+"q", impl.ErrSyntax, 500)
	}
}

func TestLongPrograms(t *testing.T) {
	for _, fill := range []string{" ", "\t", "(a)", ";", "(", "X", "1", "\n", "q", "#", "N", "-", "G0"} {
		most := strings.Repeat(fill, impl.MaxText)[:impl.MaxText]
		checkParsedByForms(t, most)
		for _, long := range []string{most + " ", most + "\n", most + "1", "q" + most, most + most} {
			checkUnparsed(t, long, impl.ErrLong, 0)
		}
	}
	blanks := strings.Repeat(" ", impl.MaxText-2)
	checkParsed(t, "X"+blanks+"1", wordsOf(word('X', 1)))
	checkParsed(t, "X1;"+blanks[1:], wordsOf(word('X', 1)))
	checkUnparsed(t, "X"+blanks+"1\n", impl.ErrLong, 0)
}

// All lines of a few bytes, held against the forms.
func TestAllShortLines(t *testing.T) {
	const alphabet = "NXG#=-012+(); q"
	codes := map[int]int{}
	var each func(line string, more int)
	each = func(line string, more int) {
		codes[checkParsedByForms(t, line)]++
		if more > 0 {
			for _, b := range alphabet {
				each(line+string(b), more-1)
			}
		}
	}
	each("", 5)
	each("#1=", 3)
	each("N1X", 3)
	each("X1 X", 3)
	if codes[impl.OK] < 2000 || codes[impl.ErrMany] < 50 || codes[impl.ErrSyntax] < 20000 {
		t.Error("the lines are poor", codes)
	}
}

var scraps = []string{"X1", "Y-2", "Z#3", "G0", "G1", "M3", "M98", "P5", "L2", "O5", "F50", "S9", "T1", "R4", "#1=", "#2=", "5", "-6", "#7", "+", "*", "N1", "N99999", " ", "\t", "(", ")", "(a)", ";", "\n", "\n", "\n", "0", "1", "q", "999999999999999999", "20", "21"}

func TestDrawnLines(t *testing.T) {
	draw := rand.New(rand.NewSource(23))
	codes := map[int]int{}
	for range 60000 {
		text := ""
		for range draw.Intn(12) {
			text += scraps[draw.Intn(len(scraps))]
		}
		codes[checkParsedByForms(t, text)]++
	}
	if codes[impl.OK] < 5000 || codes[impl.ErrMany] < 500 || codes[impl.ErrSyntax] < 20000 {
		t.Error("the lines are poor", codes)
	}
}
