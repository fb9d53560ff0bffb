package tests

import (
	"fmt"
	"regexp"
	"strings"
	"testing"

	"loop.example/g00056/impl"
)

// consoleStart is what the samples below hang on.
const consoleStart = "block a 0 0 0 2 2 2\nblock z 4 4 4 5 5 5\noff z\nlink a 1 3 1 1\nparam p 2\n"

const startSaid = "ok\nok\nok\nok\nok\n"

// consoleSamples: a right line of each form, and what it says behind the start.
var consoleSamples = []struct{ line, says string }{
	{"param q p", "ok"}, {"eval p", "value 2 0"},
	{"block b 1 2 3 4 5 6", "ok"}, {"block b 1 2 3 4 5 6 a 1", "ok"}, {"pocket b 1 2 3 4 5 6", "ok"}, {"pocket b 1 2 3 4 5 6 a 1", "ok"}, {"row b a 1 2 3 4", "ok"},
	{"drop a", "ok"}, {"off a", "ok"}, {"back z", "ok"},
	{"build", "part 8 6"}, {"faces", "face a 1 4 1\nface a 2 4 1\nface a 3 4 1\nface a 4 4 1\nface a 5 4 1\nface a 6 4 1"}, {"section 1", "0 ##\n1 ##"}, {"layers", "layer 0 4 2\nlayer 1 4 2"}, {"print", "print 4 4"}, {"mill 1 2", "mill 1 0 0 0"},
	{"save", "ok"}, {"diff", "add a\nadd z"}, {"link b 1 2 3 4", "ok"}, {"chain 2 4", "chain 2 4 safe"}, {"fit 5 6 2 3", "fit 1 2 4"},
}

// checkSaid: behind the start, a line says that.
func checkSaid(t *testing.T, line, says string) {
	t.Helper()
	for _, end := range []string{"", "\n", "\n\n", "\n# end"} {
		got, code := checkConsole(t, consoleStart+line+end)
		if says != "" {
			says = strings.TrimSuffix(says, "\n") + "\n"
		}
		if got != startSaid+says || code != impl.OK {
			t.Errorf("%q says %q %d, not %q", line, got, code, says)
		}
	}
}

func TestConsoleWords(t *testing.T) {
	for _, sample := range consoleSamples {
		words := strings.Split(sample.line, " ")
		checkSaid(t, sample.line, sample.says)
		// blanks ahead of words, between and behind them
		for _, between := range []string{" ", "  ", "       "} {
			line := strings.Join(words, between)
			for _, line := range []string{line, between + line, line + between, between + line + between + between} {
				checkSaid(t, line, sample.says)
			}
		}
		// the first word, spelt otherwise
		first := words[0]
		for _, other := range []string{strings.ToUpper(first), strings.ToUpper(first[:1]) + first[1:], first + "s", first[1:], first[:len(first)-1], first + ".", first + "#", "'" + first + "'", first + ",", "-" + first, "\ufeff" + first, first + "\x00"} {
			checkSaid(t, strings.Join(append([]string{other}, words[1:]...), " "), "error syntax")
		}
		checkSaid(t, "#"+sample.line, "")
		checkSaid(t, "# "+sample.line, "")
		checkSaid(t, "   #"+sample.line, "")
		checkSaid(t, sample.line[:1]+"#"+sample.line[1:], "error syntax")
	}
	for _, line := range []string{"", " ", "          ", "#", "##", " #", "# #", "   # a b", "#a", "#\t", "#\xff", "#end", "#1=5"} {
		checkSaid(t, line, "")
	}
	for _, line := range []string{"a", "end", "help", "0", "-", "ok", "error", "value 2 0", "\t", "\r", "\t#", "\r# a", "\x00", "\xff", "\v", "\f", "\u00a0", "é", "param", "eval", "'#'", ";", "// a", "nc nc", "parameval", "param,q,p"} {
		checkSaid(t, line, "error syntax")
	}
}

// One word too few, and one too many.
func TestConsoleWordCounts(t *testing.T) {
	for _, sample := range consoleSamples {
		words := strings.Split(sample.line, " ")
		for n := 1; n < len(words); n++ {
			if n == 8 && len(words) == 10 { // it stands nowhere then, and that is right
				continue
			}
			for _, end := range []string{"", " ", "   "} {
				checkSaid(t, strings.Join(words[:n], " ")+end, "error syntax")
			}
		}
		if words[0] == "param" || words[0] == "eval" {
			continue
		}
		for _, more := range []string{"1", "b", "#", "# a", "1 2 3", "a 1 2", "\t", "\r", "\x00", "a 1 #"} {
			checkSaid(t, sample.line+" "+more, "error syntax")
		}
	}
	checkSaid(t, "block b 1 2 3 4 5 6 a", "error syntax")
	checkSaid(t, "block b 1 2 3 4 5 6 a 1 1", "error syntax")
	checkSaid(t, "block b 1 2 3 4 5 6 1 a", "error syntax")
	checkSaid(t, "pocket b 1 2 3 4 5 6 7 8 9 10", "error syntax")
	checkSaid(t, "nc 1", "error syntax")
}

var wordsOfNumbers = regexp.MustCompile(`[0-9]+`)

// In each place of a number: texts that are none, and the greatest that are.
func TestConsoleNumbers(t *testing.T) {
	none := []string{"00", "01", "-0", "+1", "+0", "-01", "--1", "1-", "-", "+", "1.0", "1.", ".1", "1e1", "0x1", "1_0", "1,000", "٣", "x", "1\t", "\r1", "1\x00", "a", "#1", "1000000000000000000", "-1000000000000000000", "9223372036854775807", "-9223372036854775808", strings.Repeat("9", 40), strings.Repeat("0", 18), "0" + strings.Repeat("1", 17)}
	some := []string{"0", "1", "-1", "9", "10", "24", "25", "-24", "-25", "100000", "-100000", "100001", "999999999999999999", "-999999999999999999", "100000000000000000"}
	places := 0
	for _, sample := range consoleSamples {
		for _, place := range wordsOfNumbers.FindAllStringIndex(sample.line, -1) {
			places++
			with := func(number string) string { return sample.line[:place[0]] + number + sample.line[place[1]:] }
			for _, number := range none {
				checkSaid(t, with(number), "error syntax")
			}
			for _, number := range some {
				said, _ := checkConsole(t, consoleStart+with(number))
				if strings.HasSuffix(said, "error syntax\n") {
					t.Errorf("%q says %q", with(number), said)
				}
			}
		}
	}
	if places != 2*6+2*7+4+1+2+4+2+4 {
		t.Error("places of numbers:", places)
	}
	for _, number := range none { // such a line is not counted, either
		text := strings.Repeat("section "+number+"\nmill 0 "+number+"\nmill "+number+" 1\n", 10) + "build\n"
		if said, _ := checkConsole(t, text); said != strings.Repeat("error syntax\n", 30)+"part 0 0\n" {
			t.Errorf("%q says %q", text, said)
		}
	}
}

// A tab and a byte 13 are no blanks: they are a part of a word, or a word.
func TestConsoleOtherBlanks(t *testing.T) {
	for _, other := range []string{"\t", "\r", "\v", "\f", "\x00", "\u00a0", "\u2003", "\x85", "\xa0", "\x1f", "\x7f"} {
		for _, sample := range consoleSamples {
			checkSaid(t, other+sample.line, "error syntax")
			checkSaid(t, other+" "+sample.line, "error syntax")
			if strings.Contains(sample.line, " ") {
				checkSaid(t, strings.Replace(sample.line, " ", other, 1), "error syntax")
			} else {
				checkSaid(t, sample.line+other, "error syntax")
				checkSaid(t, sample.line+" "+other, "error syntax")
			}
		}
		checkSaid(t, "fit 5 6 2 3"+other, "error syntax")
		checkSaid(t, "fit 5 6 2 3 "+other, "error syntax")
		checkSaid(t, "drop a"+other, "error none")
		checkSaid(t, "off a"+other, "error name")
		checkSaid(t, "back"+other+"a", "error syntax")
		checkSaid(t, "block b"+other+" 0 0 0 1 1 1", "error bad")
		checkSaid(t, "link b"+other+" 1 1 1 1", "error bad")
		checkSaid(t, other, "error syntax")
		checkSaid(t, other+"# a", "error syntax")
		checkSaid(t, " "+other, "error syntax")
	}
	// within a term they are what the term has
	checkSaid(t, "eval \tp\r", "value 2 0")
	checkSaid(t, "eval \t", "error syntax")
	checkSaid(t, "eval p\v", "error syntax")
	checkSaid(t, "param q \tp\r", "ok")
	checkSaid(t, "param q\t p", "error bad")
	checkSaid(t, "param \tq p", "error bad")
	checkSaid(t, "param q\tp", "error syntax")
}

func TestConsoleTextLimits(t *testing.T) {
	for _, c := range []struct {
		text, want string
		code       int
	}{
		{"", "", impl.OK}, {"\n", "", impl.OK}, {"x", "error syntax\n", impl.OK}, {"save", "ok\n", impl.OK}, {"save\nsave", "ok\nok\n", impl.OK}, {"\n\n\nsave\n\n", "ok\n", impl.OK},
		{strings.Repeat("\n", 200), "", impl.OK}, {strings.Repeat("\n", 201), "", impl.ErrMany}, {strings.Repeat("\n", 200) + "#", "", impl.ErrMany}, {strings.Repeat("\n", 200) + " ", "", impl.ErrMany}, {strings.Repeat("\n", 199) + "save", "ok\n", impl.OK}, {strings.Repeat("\n", 199) + "save\n", "ok\n", impl.OK}, {strings.Repeat("\n", 199) + "save\n\n", "", impl.ErrMany}, {strings.Repeat("\n", 199) + "save\nsave", "", impl.ErrMany},
		{strings.Repeat("save\n", 200), strings.Repeat("ok\n", 200), impl.OK}, {strings.Repeat("save\n", 199) + "save", strings.Repeat("ok\n", 200), impl.OK}, {strings.Repeat("save\n", 201), "", impl.ErrMany}, {strings.Repeat("save\n", 5000), "", impl.ErrMany},
		// lines of machine programs are lines, too
		{"nc\n" + strings.Repeat("X1\n", 198) + "end\n", "acts 198\n", impl.OK}, {"nc\n" + strings.Repeat("X1\n", 198) + "end", "acts 198\n", impl.OK}, {"nc\n" + strings.Repeat("X1\n", 199) + "end", "", impl.ErrMany}, {"nc\n" + strings.Repeat("X1\n", 198) + "end\nsave", "", impl.ErrMany}, {"nc\n" + strings.Repeat("X1\n", 199), "error syntax\n", impl.OK}, {"nc\n" + strings.Repeat("X1\n", 200), "", impl.ErrMany}, {"nc\n" + strings.Repeat("\n", 600), "", impl.ErrMany}, {"nc\n" + strings.Repeat("\n", 198) + "Q\n", "error syntax\n", impl.OK},
		// as long as a text may be, and longer
		{strings.Repeat(" ", 65536), "", impl.OK}, {strings.Repeat(" ", 65537), "", impl.ErrLong}, {"#" + strings.Repeat("\xff", 65535), "", impl.OK}, {"#" + strings.Repeat("\xff", 65536), "", impl.ErrLong}, {strings.Repeat("x", 65536), "error syntax\n", impl.OK}, {strings.Repeat("x", 1<<20), "", impl.ErrLong},
		{strings.Repeat(" ", 65532) + "save", "ok\n", impl.OK}, {strings.Repeat(" ", 65532) + "save\n", "", impl.ErrLong}, {"save" + strings.Repeat(" ", 65532), "ok\n", impl.OK}, {"eval" + strings.Repeat(" ", 65531) + "7", "value 7 0\n", impl.OK}, {"eval 7" + strings.Repeat(" ", 65530), "value 7 0\n", impl.OK}, {"eval " + strings.Repeat("7", 65531), "error syntax\n", impl.OK}, {"drop " + strings.Repeat("a", 65531), "error none\n", impl.OK}, {"param " + strings.Repeat("a", 65528) + " 1", "error bad\n", impl.OK}, {"section " + strings.Repeat("1", 65528), "error syntax\n", impl.OK}, {"nc\n" + strings.Repeat(" ", 65530) + "\nend", "", impl.ErrLong}, {"nc\n" + strings.Repeat(" ", 65529) + "\nend", "acts 0\n", impl.OK},
		// both at once: what is too long is told first
		{strings.Repeat("\n", 65536), "", impl.ErrMany}, {strings.Repeat("\n", 65537), "", impl.ErrLong}, {strings.Repeat("save\n", 13107) + "x", "", impl.ErrMany}, {strings.Repeat("save\n", 13107) + "xx", "", impl.ErrLong}, {strings.Repeat("\n", 200) + strings.Repeat("x", 65336), "", impl.ErrMany}, {strings.Repeat("\n", 200) + strings.Repeat("x", 65337), "", impl.ErrLong},
	} {
		got, code := checkConsole(t, c.text)
		if got != c.want || code != c.code {
			t.Errorf("Console(%q): %q %d, not %q %d", short(c.text), short(got), code, short(c.want), c.code)
		}
	}
}

func TestConsoleOfAnyBytes(t *testing.T) {
	for first := range 256 {
		one := string([]byte{byte(first)})
		checkConsole(t, one)
		for _, sample := range consoleSamples {
			for _, text := range []string{one + sample.line, sample.line + one, sample.line[:1] + one + sample.line[1:], sample.line + one + sample.line, one + one + sample.line + one} {
				checkConsole(t, consoleStart+text)
			}
		}
		for _, text := range []string{"nc\n" + one + "\nend", "nc\nend" + one, "nc\n" + one + "end\n", "nc" + one + "\nend\n", "nc\nX1" + one + "\nend"} {
			checkConsole(t, text)
		}
		for second := range 256 {
			checkConsole(t, one+string([]byte{byte(second)}))
		}
	}
}

// consoleCalls: calls of the layer's function, right, at an edge and wrong.
func consoleCalls() []func() string {
	var calls []func() string
	tell := func(call func() string) { calls = append(calls, call) }
	texts := []string{"", "\n", "x", "nc", "nc\nend", "nc\nG1 X1\nend\n", strings.Repeat("\n", 201), strings.Repeat(" ", 65537), strings.Repeat("build\n", 30), "build\nparam a a\neval a\n"}
	for _, sample := range consoleSamples {
		texts = append(texts, sample.line, consoleStart+sample.line, consoleStart+sample.line+" 1\n")
	}
	for _, text := range texts {
		tell(func() string { return fmt.Sprint(impl.Console(text)) })
	}
	return calls
}
