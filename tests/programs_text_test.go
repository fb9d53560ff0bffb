package tests

import (
	"fmt"
	"math/rand"
	"slices"
	"strings"
	"testing"

	"loop.example/g00056/impl"
)

// exactText writes blocks that some text has.
func exactText(blocks []impl.Block) string {
	value := func(w impl.Word) string {
		if w.Var {
			return fmt.Sprintf("#%d", w.Num)
		}
		return fmt.Sprint(w.Num)
	}
	text := ""
	for _, b := range blocks {
		var parts []string
		if b.N > 0 {
			parts = append(parts, fmt.Sprintf("N%d", b.N))
		}
		for _, w := range b.Words {
			parts = append(parts, fmt.Sprintf("%c%s", w.Letter, value(w)))
		}
		switch {
		case b.Op != 0:
			parts = append(parts, fmt.Sprintf("#%d=%s%c%s", b.Set, value(b.A), b.Op, value(b.B)))
		case b.Set != 0:
			parts = append(parts, fmt.Sprintf("#%d=%s", b.Set, value(b.A)))
		}
		text += strings.Join(parts, " ") + "\n"
	}
	return text
}

// rightValue: without its letter.
func rightValue(w impl.Word) bool {
	if w.Var {
		return w.Num >= 1 && w.Num <= 20
	}
	return w.Num > -1000000000000000000 && w.Num < 1000000000000000000
}

// rightBlock: some text has it.
func rightBlock(b impl.Block) bool {
	letters := map[int]int{}
	for _, w := range b.Words {
		letters[w.Letter]++
		once := w.Letter != 'G' && w.Letter != 'M'
		if !slices.Contains([]rune("GMXYZRFSTPLO"), rune(w.Letter)) || w.Letter > 255 || w.Letter < 0 || !rightValue(w) || once && letters[w.Letter] > 1 {
			return false
		}
	}
	zero := impl.Word{}
	switch {
	case b.N < 0 || b.N > 99999 || len(b.Words) > 12:
		return false
	case b.Set == 0:
		return b.Op == 0 && b.A == zero && b.B == zero
	case b.Set < 1 || b.Set > 20 || len(b.Words) > 0 || b.A.Letter != 0 || b.B.Letter != 0 || !rightValue(b.A):
		return false
	case b.Op == 0:
		return b.B == zero
	}
	return (b.Op == '+' || b.Op == '-' || b.Op == '*' || b.Op == '/') && rightValue(b.B)
}

func checkWritten(t *testing.T, blocks []impl.Block, want string) {
	t.Helper()
	if text, code := impl.NcText(blocks); text != want || code != impl.OK {
		t.Errorf("NcText(%s): %.200q %d, not %.200q", short(blocks), text, code, want)
	}
	if read, code, line := impl.NcParse(want); code != impl.OK || line != 0 || !sameBlocks(read, blocks) {
		t.Errorf("NcParse(%.200q): %s %d in %d, not %s", want, short(read), code, line, short(blocks))
	}
}

func checkUnwritten(t *testing.T, blocks []impl.Block, want int) {
	t.Helper()
	if text, code := impl.NcText(blocks); text != "" || code != want {
		t.Errorf("NcText(%s): %.200q %d, not %d", short(blocks), text, code, want)
	}
}

// checkText: by what some text has.
func checkText(t *testing.T, blocks []impl.Block) int {
	t.Helper()
	text, code := impl.NcText(blocks)
	want, wantCode := "", impl.ErrBad
	switch {
	case len(blocks) > 4096:
		wantCode = impl.ErrLong
	case len(blocks) <= 500 && !slices.ContainsFunc(blocks, func(b impl.Block) bool { return !rightBlock(b) }):
		want, wantCode = exactText(blocks), impl.OK
		if len(want) > 65536 {
			want, wantCode = "", impl.ErrBad
		}
	}
	if text != want || code != wantCode {
		t.Fatalf("NcText(%s): %.200q %d, not %.200q %d", short(blocks), text, code, want, wantCode)
	}
	return code
}

func TestBlocksWritten(t *testing.T) {
	for _, c := range []struct {
		blocks []impl.Block
		want   string
	}{
		{nil, ""}, {blocksOf(), ""}, {blocksOf(impl.Block{}), "\n"}, {blocksOf(impl.Block{Words: []impl.Word{}}, impl.Block{}), "\n\n"},
		{blocksOf(wordsOf(word('X', 1))), "X1\n"}, {blocksOf(wordsOf(word('X', 1), word('Y', -20), wordBy('Z', 3))), "X1 Y-20 Z#3\n"}, {blocksOf(withN(10, wordsOf(word('G', 1), word('G', 1), word('M', -1), word('M', 0)))), "N10 G1 G1 M-1 M0\n"},
		{blocksOf(withN(1, impl.Block{}), withN(99999, impl.Block{})), "N1\nN99999\n"},
		{blocksOf(setTo(1, plain(0))), "#1=0\n"}, {blocksOf(withN(7, setTo(20, variable(20)))), "N7 #20=#20\n"}, {blocksOf(setBy(2, plain(-3), '+', variable(4))), "#2=-3+#4\n"}, {blocksOf(setBy(2, variable(3), '-', plain(-4))), "#2=#3--4\n"}, {blocksOf(setBy(2, plain(3), '*', plain(0))), "#2=3*0\n"}, {blocksOf(setBy(2, plain(3), '/', plain(0))), "#2=3/0\n"},
		{blocksOf(wordsOf(word('O', 999999999999999999), word('P', -999999999999999999))), "O999999999999999999 P-999999999999999999\n"},
		{blocksOf(wordsOf(word('X', 1)), impl.Block{}, setTo(1, plain(2)), withN(3, impl.Block{})), "X1\n\n#1=2\nN3\n"},
	} {
		checkWritten(t, c.blocks, c.want)
	}
	for _, letter := range "GMXYZRFSTPLO" {
		checkWritten(t, blocksOf(wordsOf(word(letter, 5)), wordsOf(wordBy(letter, 5))), fmt.Sprintf("%c5\n%c#5\n", letter, letter))
	}
}

func TestBlocksThatNoTextHas(t *testing.T) {
	x1, both := word('X', 1), wordsOf(word('X', 1))
	both.Set, both.A = 1, plain(2)
	for _, wrong := range []impl.Block{
		// Letters.
		wordsOf(word(0, 1)), wordsOf(word('A', 1)), wordsOf(word('N', 1)), wordsOf(word('x', 1)), wordsOf(word('#', 1)), wordsOf(word(' ', 1)), wordsOf(word('\n', 1)), wordsOf(word(';', 1)), wordsOf(word('(', 1)), wordsOf(word(')', 1)), wordsOf(word('-', 1)), wordsOf(word('1', 1)), wordsOf(word('Я', 1)), wordsOf(word(-1, 1)),
		wordsOf(impl.Word{Letter: 'X' + 256, Num: 1}), wordsOf(impl.Word{Letter: 'X' + 1<<32, Num: 1}), wordsOf(impl.Word{Letter: least, Num: 1}), wordsOf(impl.Word{Letter: greatest, Num: 1}), wordsOf(impl.Word{Letter: 'X' - 256, Num: 1}), wordsOf(x1, word(' ', 0)), wordsOf(word(';', 0)),
		// Values.
		wordsOf(word('X', 1000000000000000000)), wordsOf(word('X', -1000000000000000000)), wordsOf(word('X', least)), wordsOf(word('X', greatest)), wordsOf(wordBy('X', 0)), wordsOf(wordBy('X', 21)), wordsOf(wordBy('X', -1)), wordsOf(wordBy('X', least)), wordsOf(wordBy('X', greatest)),
		// Numbers of blocks.
		withN(-1, impl.Block{}), withN(100000, impl.Block{}), withN(least, wordsOf(x1)), withN(greatest, wordsOf(x1)), withN(-1, setTo(1, plain(1))),
		// Letters twice.
		wordsOf(x1, x1), wordsOf(word('O', 1), word('G', 1), wordBy('O', 2)),
		// Settings: their variables, signs and values.
		setTo(-1, plain(1)), setTo(21, plain(1)), setTo(least, plain(1)), setTo(greatest, plain(1)), setTo(1, plain(least)), setTo(1, plain(1000000000000000000)), setTo(1, variable(0)), setTo(1, variable(21)), setTo(1, x1), setTo(1, word(' ', 1)), setTo(1, word('-', 1)), setTo(1, word('#', 1)),
		setBy(1, plain(1), 'x', plain(1)), setBy(1, plain(1), ';', plain(1)), setBy(1, plain(1), ' ', plain(1)), setBy(1, plain(1), '\n', plain(1)), setBy(1, plain(1), '=', plain(1)), setBy(1, plain(1), -1, plain(1)), {Set: 1, Op: '+' + 256, A: plain(1), B: plain(1)}, {Set: 1, Op: least, A: plain(1)}, {Set: 1, Op: greatest, A: plain(1)},
		setBy(1, plain(1), '+', plain(greatest)), setBy(1, plain(1), '+', variable(0)), setBy(1, plain(1), '+', x1), setBy(1, plain(1), '*', word(' ', 1)), setBy(1, plain(1), 0, plain(1)), setBy(1, plain(1), 0, variable(1)), setBy(1, plain(1), 0, variable(0)), setBy(1, plain(1), 0, word('X', 0)),
		// What must be zero without a setting, words beside one.
		{Op: '+'}, {A: plain(1)}, {B: plain(1)}, {A: variable(1)}, {A: word('X', 0)}, {B: variable(0)}, {Op: '+', A: plain(1), B: plain(1)}, {Words: []impl.Word{x1}, Op: '*'}, {Words: []impl.Word{x1}, A: plain(1)}, both,
		// Words.
		wordsOf(slices.Repeat([]impl.Word{word('G', 1)}, 13)...), wordsOf(make([]impl.Word, 12)...), wordsOf(make([]impl.Word, 5000)...),
	} {
		if rightBlock(wrong) {
			t.Fatal("some text has", wrong)
		}
		right := blocksOf(wordsOf(x1), setTo(1, plain(1)), impl.Block{})
		for _, blocks := range [][]impl.Block{{wrong}, append(slices.Clone(right), wrong), append(blocksOf(wrong), right...), {wrong, wrong}} {
			checkUnwritten(t, blocks, impl.ErrBad)
		}
	}
}

func TestManyBlocksWritten(t *testing.T) {
	for _, b := range blocksOf(impl.Block{}, wordsOf(word('X', 1)), withN(5, setTo(1, variable(2))), setTo(21, plain(0))) {
		for _, count := range []int{0, 1, 499, 500, 501, 502, 4095, 4096, 4097, 9000} {
			checkText(t, slices.Repeat(blocksOf(b), count))
		}
	}
	// As many words as you like are no more than bad, also where each block has all of them.
	many := wordsOf(make([]impl.Word, 1<<20)...)
	checkUnwritten(t, slices.Repeat(blocksOf(many), 500), impl.ErrBad)
	checkUnwritten(t, slices.Repeat(blocksOf(many), 4096), impl.ErrBad)
	checkUnwritten(t, slices.Repeat(blocksOf(many), 4097), impl.ErrLong)
	twelve := slices.Repeat([]impl.Word{word('G', -100000000000000000)}, 12)
	checkWritten(t, blocksOf(wordsOf(twelve...)), strings.Repeat(" G-100000000000000000", 12)[1:]+"\n")
	checkUnwritten(t, blocksOf(wordsOf(append(twelve, word('G', 0))...)), impl.ErrBad)
	// A text that would be too long is no text: 273 lines of 240 bytes, and a line that fills up.
	wide := wordsOf(slices.Repeat([]impl.Word{word('G', -10000000000000000)}, 12)...)
	lines := slices.Repeat(blocksOf(wide), 273)
	if text := exactText(lines); len(text) != 65520 {
		t.Fatal("the lines are of another length", len(text))
	}
	checkWritten(t, append(slices.Clone(lines), wordsOf(word('X', 1000000000), word('Y', 1))), exactText(lines)+"X1000000000 Y1\n")
	checkWritten(t, append(slices.Clone(lines), wordsOf(word('X', 1000000000), word('Y', 10))), exactText(lines)+"X1000000000 Y10\n")
	checkUnwritten(t, append(slices.Clone(lines), wordsOf(word('X', 1000000000), word('Y', 100))), impl.ErrBad)
	checkUnwritten(t, slices.Repeat(blocksOf(wide), 500), impl.ErrBad)
}

func drawnValue(draw *rand.Rand, letter rune) impl.Word {
	switch draw.Intn(4) {
	case 0:
		return wordBy(letter, 1+draw.Intn(20))
	case 1:
		return word(letter, draw.Intn(1999999999999999999)-999999999999999999)
	}
	return word(letter, draw.Intn(41)-20)
}

// drawnBlock: some text has it.
func drawnBlock(draw *rand.Rand) impl.Block {
	var b impl.Block
	if draw.Intn(3) == 0 {
		b.N = 1 + draw.Intn(99999)
	}
	if draw.Intn(3) == 0 {
		b.Set, b.A = 1+draw.Intn(20), drawnValue(draw, 0)
		if draw.Intn(4) > 0 {
			b.Op, b.B = int("+-*/"[draw.Intn(4)]), drawnValue(draw, 0)
		}
		return b
	}
	letters := []rune("GGGGMMMMXYZRFSTPLO")
	draw.Shuffle(len(letters), func(i, j int) { letters[i], letters[j] = letters[j], letters[i] })
	for _, letter := range letters[:draw.Intn(13)] {
		b.Words = append(b.Words, drawnValue(draw, letter))
	}
	return b
}

func drawnBlocks(draw *rand.Rand, most int) []impl.Block {
	blocks := make([]impl.Block, draw.Intn(most+1))
	for i := range blocks {
		blocks[i] = drawnBlock(draw)
	}
	return blocks
}

// stuffed puts remarks and blanks anywhere into the lines of a text.
func stuffed(draw *rand.Rand, text string) string {
	stuff := []string{" ", "\t", "  ", "()", "(G1 X5)", "(;)", "(a(b)"}
	var made strings.Builder
	for _, b := range text {
		if draw.Intn(3) == 0 {
			made.WriteString(stuff[draw.Intn(len(stuff))])
		}
		if b == '\n' {
			made.WriteString([]string{"", ";", "; X1 (a", "(X1", "(", "(;"}[draw.Intn(6)])
		}
		made.WriteRune(b)
	}
	return made.String()
}

func TestBlocksWrittenAreReadAsTheyWere(t *testing.T) {
	draw := rand.New(rand.NewSource(24))
	for range 5000 {
		blocks := drawnBlocks(draw, 8)
		text := exactText(blocks)
		checkWritten(t, blocks, text)
		for _, other := range []string{stuffed(draw, text), strings.ReplaceAll(text, " ", ""), strings.ReplaceAll(text, " ", "\t (a) ")} {
			read, code, line := impl.NcParse(other)
			if code != impl.OK || line != 0 || !sameBlocks(read, blocks) {
				t.Fatalf("NcParse(%q): %s %d in %d, not %s", other, short(read), code, line, short(blocks))
			}
			if again, code := impl.NcText(read); again != text || code != impl.OK {
				t.Fatalf("NcText of %q: %q %d, not %q", other, again, code, text)
			}
		}
		// The last line's end, and numbers put in or taken out.
		if read, code, _ := impl.NcParse(strings.TrimSuffix(text, "\n")); code != impl.OK || len(blocks) > 0 && exactText(blocks[len(blocks)-1:]) != "\n" && !sameBlocks(read, blocks) {
			t.Fatalf("NcParse(%q) without its last byte: %s %d", text, short(read), code)
		}
		renumbered, numbers := slices.Clone(blocks), ""
		for i := range blocks {
			renumbered[i].N = 0
			line := exactText(renumbered[i : i+1])
			renumbered[i].N = i + 1
			numbers += fmt.Sprintf("N%d", i+1) + line
		}
		if read, code, _ := impl.NcParse(numbers); code != impl.OK || !sameBlocks(read, renumbered) {
			t.Fatalf("NcParse(%q): %s %d, not %s", numbers, short(read), code, short(renumbered))
		}
	}
}

// spoiltBlock: one of its numbers is another one.
func spoiltBlock(draw *rand.Rand, b impl.Block) impl.Block {
	odd := []int{0, 1, -1, 20, 21, 'X', 'G', '+', '-', 99999, 100000, 999999999999999999, 1000000000000000000, -1000000000000000000, least, greatest, 'X' + 256, 10, ' ', ';'}[draw.Intn(20)]
	b.Words = slices.Clone(b.Words)
	spoilWord := func(w *impl.Word) {
		switch draw.Intn(3) {
		case 0:
			w.Letter = odd
		case 1:
			w.Num = odd
		case 2:
			w.Var = !w.Var
		}
	}
	switch draw.Intn(7) {
	case 0:
		b.N = odd
	case 1:
		b.Set = odd
	case 2:
		b.Op = odd
	case 3:
		spoilWord(&b.A)
	case 4:
		spoilWord(&b.B)
	case 5:
		b.Words = append(b.Words, drawnValue(draw, rune("GXYN"[draw.Intn(4)])))
	}
	if len(b.Words) > 0 && draw.Intn(3) == 0 {
		spoilWord(&b.Words[draw.Intn(len(b.Words))])
	}
	return b
}

func TestDrawnBlocksSpoilt(t *testing.T) {
	draw := rand.New(rand.NewSource(25))
	codes := map[int]int{}
	for range 40000 {
		blocks := append(drawnBlocks(draw, 2), spoiltBlock(draw, drawnBlock(draw)))
		codes[checkText(t, blocks)]++
	}
	if codes[impl.OK] < 5000 || codes[impl.ErrBad] < 10000 {
		t.Error("the blocks are poor", codes)
	}
}
