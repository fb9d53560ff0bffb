package tests

import (
	"fmt"
	"slices"
	"strings"
	"testing"

	"loop.example/g00056/impl"
)

const (
	least    = -1 << 63
	greatest = 1<<63 - 1
)

func TestLimits(t *testing.T) {
	if impl.MaxText != 65536 || impl.MaxList != 4096 || impl.MaxName != 40 {
		t.Error("limits", impl.MaxText, impl.MaxList, impl.MaxName)
	}
}

func TestCodesTellTheirWords(t *testing.T) {
	for number, c := range []struct {
		code int
		word string
	}{
		{impl.OK, "ok"}, {impl.ErrBad, "bad"}, {impl.ErrLong, "long"}, {impl.ErrForm, "form"}, {impl.ErrSyntax, "syntax"},
		{impl.ErrRange, "range"}, {impl.ErrName, "name"}, {impl.ErrTwice, "twice"}, {impl.ErrNone, "none"}, {impl.ErrLoop, "loop"},
		{impl.ErrMany, "many"}, {impl.ErrZero, "zero"}, {impl.ErrOver, "over"}, {impl.ErrState, "state"}, {impl.ErrUnit, "unit"},
		{impl.ErrCore, "core"}, {impl.ErrGouge, "gouge"}, {impl.ErrKind, "kind"}, {impl.ErrFull, "full"}, {impl.ErrSum, "sum"},
	} {
		if c.code != number {
			t.Errorf("the code of %q is %d, not %d", c.word, c.code, number)
		}
		if got := impl.CodeWord(number); got != c.word {
			t.Errorf("CodeWord(%d): %q, not %q", number, got, c.word)
		}
		if got := impl.CodeOf(c.word); got != number {
			t.Errorf("CodeOf(%q): %d, not %d", c.word, got, number)
		}
	}
}

func TestNumbersThatAreNoCodes(t *testing.T) {
	for _, code := range []int{-1, 20, -2, 21, -20, 256, 65536, 1 << 32, least, least + 1, greatest} {
		if got := impl.CodeWord(code); got != "" {
			t.Errorf("CodeWord(%d): %q", code, got)
		}
	}
}

func TestTextsThatAreNoWords(t *testing.T) {
	words := []string{
		"", " ", "OK", "Ok", "oK", "o", "okk", " ok", "ok ", "ok\n", "ok\x00", "\x00", "BAD", "ba", "bads", "SUM", "Sum", "su", "none ", "no", "0", "19", "-1",
		"оk", "ЕrrBad", "ErrBad", "дом", "\xff", "b\xc3d",
		strings.Repeat("o", impl.MaxText), strings.Repeat("o", impl.MaxText+1), "ok" + strings.Repeat("\x00", impl.MaxText), strings.Repeat("ok", impl.MaxText),
	}
	for _, word := range words {
		if got := impl.CodeOf(word); got != -1 {
			t.Errorf("CodeOf of %d bytes, %.20q: %d", len(word), word, got)
		}
	}
}

func TestNamesOrdinary(t *testing.T) {
	for _, name := range []string{"a", "z", "A", "Z", "_", "__", "_9", "a0", "a9", "Wall_2", "x0y1", "дом", "Дом7", "Größe", "ß", "λ1", "Ωω", "ÀÿĀɏ", "aдλß_9"} {
		if !impl.NameOK(name) {
			t.Errorf("NameOK(%q) is false", name)
		}
	}
	for _, name := range []string{"", "0", "9a", "0123", " a", "a ", "a b", "a-b", "a.b", "a/b", "a\n", "\x00", "a\x00", "a×b", "×", "÷", "a÷", "1д", "a٣", "日本", "a日", "é́"} {
		if impl.NameOK(name) {
			t.Errorf("NameOK(%q) is true", name)
		}
	}
}

func TestNamesByLength(t *testing.T) {
	for _, c := range []struct {
		name string
		want bool
	}{
		{strings.Repeat("a", impl.MaxName), true},
		{strings.Repeat("a", impl.MaxName+1), false},
		{"a" + strings.Repeat("9", impl.MaxName-1), true},
		{"a" + strings.Repeat("9", impl.MaxName), false},
		{strings.Repeat("д", impl.MaxName/2), true},
		{strings.Repeat("д", impl.MaxName/2) + "a", false},
		{"a" + strings.Repeat("д", impl.MaxName/2-1) + "a", true},
		{"a" + strings.Repeat("д", impl.MaxName/2), false},
		{strings.Repeat("д", impl.MaxName), false},
		{strings.Repeat("a", impl.MaxText), false},
		{strings.Repeat("a", impl.MaxText+1), false},
	} {
		if got := impl.NameOK(c.name); got != c.want {
			t.Errorf("NameOK of %d bytes, %.4q ..: %v", len(c.name), c.name, got)
		}
	}
}

// letterRow tells by the document's rows whether a rune may begin a name.
func letterRow(r rune) bool {
	for _, row := range [][2]rune{{'a', 'z'}, {'A', 'Z'}, {'_', '_'}, {0xC0, 0xD6}, {0xD8, 0xF6}, {0xF8, 0x24F}, {0x391, 0x3C9}, {0x410, 0x44F}} {
		if row[0] <= r && r <= row[1] {
			return true
		}
	}
	return false
}

func TestNamesOfEachRune(t *testing.T) {
	for r := rune(0); r <= 0x10FFFF; r++ {
		if r >= 0xD800 && r <= 0xDFFF {
			continue // no rune of its own: string(r) would be 0xFFFD
		}
		letter, digit := letterRow(r), r >= '0' && r <= '9'
		if got := impl.NameOK(string(r)); got != letter {
			t.Fatalf("NameOK of the rune %#x: %v", r, got)
		}
		if got := impl.NameOK("a" + string(r)); got != (letter || digit) {
			t.Fatalf("NameOK of a and the rune %#x: %v", r, got)
		}
	}
}

func TestNamesOfEachTwoBytes(t *testing.T) {
	for first := range 256 {
		for second := range 256 {
			name := string([]byte{byte(first), byte(second)})
			want := false
			if first < 0x80 && second < 0x80 {
				want = letterRow(rune(first)) && (letterRow(rune(second)) || second >= '0' && second <= '9')
			} else if first >= 0xC2 && first <= 0xDF && second >= 0x80 && second <= 0xBF {
				want = letterRow(rune(first&31<<6 | second&63))
			}
			if got := impl.NameOK(name); got != want {
				t.Fatalf("NameOK(%q): %v", name, got)
			}
		}
	}
}

func TestNamesWronglyEncoded(t *testing.T) {
	for _, name := range []string{
		"\x80", "\xff", "a\x80", "a\xff", "a\xc3", "\xc3", "\xc3\xc3\x80", "a\xc3b", "\xc3\x80\x80", // bytes too few or too many
		"\xc1\x81", "a\xc1\x81", "\xe0\x81\x81", "\xe0\x83\x80", "\xf0\x80\x83\x80", "a\xe0\x90\x90", // longer encodings of letters
		"\xed\xa0\x80", "\xef\xbf\xbd", "a\xef\xbf\xbd", "\xf4\x90\x80\x80",
	} {
		if impl.NameOK(name) {
			t.Errorf("NameOK(%q) is true", name)
		}
	}
}

// stageOneCalls: calls of every function of the first two layers, right, at an edge and wrong.
func stageOneCalls() []func() string {
	var calls []func() string
	tell := func(call func() string) { calls = append(calls, call) }
	for _, text := range []string{"", "a", "ok", "sum", "дом", "9a", "1/2", "-3/4", "2/4", "\xff", strings.Repeat("1", impl.MaxText+1)} {
		tell(func() string { return fmt.Sprint("NameOK ", impl.NameOK(text)) })
		tell(func() string { return fmt.Sprint("CodeOf ", impl.CodeOf(text)) })
		tell(func() string { return fmt.Sprint(impl.ReadFrac(text)) })
	}
	numbers := []int{least, least + 1, -impl.MaxPart - 1, -impl.MaxPart, -7, -1, 0, 1, 2, 3, 4, 19, 20, impl.MaxPart, impl.MaxPart + 1, greatest}
	for _, n := range numbers {
		tell(func() string { return fmt.Sprint("CodeWord ", impl.CodeWord(n)) })
		for _, d := range numbers {
			f := impl.Frac{N: n, D: d}
			tell(func() string { return fmt.Sprint(impl.FracOf(n, d)) })
			tell(func() string { return fmt.Sprint("FracOK ", impl.FracOK(f)) })
			tell(func() string { return fmt.Sprint(impl.FracText(f)) })
			for _, other := range []impl.Frac{{N: 1, D: 3}, {N: -impl.MaxPart, D: 1}, {}, f} {
				tell(func() string { return fmt.Sprint(impl.FracAdd(f, other)) })
				tell(func() string { return fmt.Sprint(impl.FracMul(other, f)) })
				tell(func() string { return fmt.Sprint(impl.FracLess(f, other)) })
			}
			for _, mode := range []int{least, 0, impl.RdDown, impl.RdUp, impl.RdEven, 4, greatest} {
				tell(func() string { return fmt.Sprint(impl.FracRound(f, mode)) })
			}
		}
	}
	return calls
}

func TestAnswersHangOnNothingElse(t *testing.T) {
	calls := slices.Concat(stageOneCalls(), termCalls(), planeCalls(), sketchCalls(), featureCalls(), nameCalls(), chainCalls(), fitCalls(), measuringCalls(), millingCalls(), strategyCalls(), programCalls(), postCalls(), controllerCalls(), printingCalls(), sheetCalls(), barCalls(), vibrationCalls(), plantCalls(), fileCalls(), mergeCalls(), consoleCalls())
	first := make([]string, len(calls))
	for i, call := range calls {
		first[i] = call()
	}
	for i := len(calls) - 1; i >= 0; i-- {
		if got := calls[i](); got != first[i] {
			t.Fatalf("call %d: %q at first, then %q", i, first[i], got)
		}
	}
}
