package tests

import (
	"fmt"
	"math/big"
	"math/rand"
	"slices"
	"strings"
	"testing"

	"loop.example/g00056/impl"
)

// ncStand: how things stand in a program, numbers as great as they are. Each
// call is the place of its O, the rounds that are left, and the block it keeps.
type ncStand struct {
	blocks    []impl.Block
	vars      [20]*big.Int
	place     [3]*big.Int
	g         map[string]bool // fast, ways, cycle, feed
	back, end *big.Int
	calls     [][3]*big.Int
	log       impl.NcLog
}

// ncFault is thrown where a block has a code.
type ncFault int

func (s *ncStand) value(w impl.Word) *big.Int {
	if w.Var {
		return s.vars[w.Num-1]
	}
	return big.NewInt(int64(w.Num))
}

// all: the values of a letter's words, in their order.
func (s *ncStand) all(b impl.Block, letter rune) []*big.Int {
	var values []*big.Int
	for _, w := range b.Words {
		if w.Letter == int(letter) {
			values = append(values, s.value(w))
		}
	}
	return values
}

// wrapped: the number within 64 bits that is as good.
func wrapped(n *big.Int) *big.Int {
	circle := new(big.Int).Lsh(big.NewInt(1), 64)
	half := new(big.Int).Lsh(big.NewInt(1), 63)
	n = new(big.Int).Mod(new(big.Int).Add(n, half), circle)
	return n.Sub(n, half)
}

func (s *ncStand) set(b impl.Block) {
	n, by := s.value(b.A), s.value(b.B)
	made := new(big.Int).Set(n)
	switch b.Op {
	case '+':
		made.Add(n, by)
	case '-':
		made.Sub(n, by)
	case '*':
		made.Mul(n, by)
	case '/':
		if by.Sign() == 0 {
			panic(ncFault(impl.ErrZero))
		}
		made.Quo(n, by)
	}
	s.vars[b.Set-1] = wrapped(made)
}

func rangeOrFault(n *big.Int, low, high int64) *big.Int {
	if n.Cmp(big.NewInt(low)) < 0 || n.Cmp(big.NewInt(high)) > 0 {
		panic(ncFault(impl.ErrRange))
	}
	return n
}

func (s *ncStand) act(kind int, n *big.Int) {
	s.log.Acts = append(s.log.Acts, impl.Act{Kind: kind, Num: int(n.Int64())})
}

func (s *ncStand) moveTo(fast bool, place [3]*big.Int) {
	for _, n := range place {
		rangeOrFault(n, -100000, 100000)
	}
	if !fast && !s.g["feed"] {
		panic(ncFault(impl.ErrState))
	}
	s.place = place
	s.log.Acts = append(s.log.Acts, impl.Act{Kind: 1, Fast: fast, X: int(place[0].Int64()), Y: int(place[1].Int64()), Z: int(place[2].Int64())})
}

func (s *ncStand) prepare(b impl.Block) {
	for _, n := range s.all(b, 'F') {
		rangeOrFault(n, 1, greatest)
		s.g["feed"] = true
	}
	for _, n := range s.all(b, 'S') {
		s.act(impl.AcSpin, rangeOrFault(n, 0, greatest))
	}
	for _, n := range s.all(b, 'T') {
		s.act(impl.AcTool, rangeOrFault(n, 0, 9))
	}
	for _, n := range s.all(b, 'G') {
		r, z := s.all(b, 'R'), s.all(b, 'Z')
		switch n.String() {
		case "0", "1":
			s.g["fast"] = n.Sign() == 0
		case "90", "91":
			s.g["ways"] = n.Bit(0) == 1
		case "80":
			s.g["cycle"] = false
		case "81":
			if len(r)+len(z) < 2 {
				panic(ncFault(impl.ErrName))
			}
			s.g["cycle"], s.back, s.end = true, r[0], z[0]
		default:
			panic(ncFault(impl.ErrKind))
		}
	}
}

func (s *ncStand) move(b impl.Block) {
	to, there := s.place, [3]bool{}
	for axis, letter := range "XYZ" {
		for _, n := range s.all(b, letter) {
			there[axis], to[axis] = true, n
			if s.g["ways"] {
				to[axis] = new(big.Int).Add(n, s.place[axis])
			}
		}
	}
	if !s.g["cycle"] {
		if there[0] || there[1] || there[2] {
			s.moveTo(s.g["fast"], to)
		}
		return
	}
	if there[0] || there[1] {
		s.moveTo(true, [3]*big.Int{to[0], to[1], s.place[2]})
		s.moveTo(true, [3]*big.Int{to[0], to[1], s.back})
		s.moveTo(false, [3]*big.Int{to[0], to[1], s.end})
		s.moveTo(true, [3]*big.Int{to[0], to[1], s.back})
	}
}

// extras answers the number of the next block.
func (s *ncStand) extras(b impl.Block, next int) int {
	for _, n := range s.all(b, 'M') {
		switch n.String() {
		case "30":
			return len(s.blocks)
		case "98":
			next = s.call(b, next)
		case "99":
			if len(s.calls) == 0 {
				panic(ncFault(impl.ErrState))
			}
			last := &s.calls[len(s.calls)-1]
			last[1] = new(big.Int).Sub(last[1], big.NewInt(1))
			if next = int(last[0].Int64()); last[1].Sign() == 0 {
				next = int(last[2].Int64())
				s.calls = s.calls[:len(s.calls)-1]
			}
		default:
			s.act(impl.AcCode, n)
		}
	}
	return next
}

func (s *ncStand) call(b impl.Block, next int) int {
	number, rounds, found := s.all(b, 'P'), append(s.all(b, 'L'), big.NewInt(1))[0], -1
	if len(number) == 0 {
		panic(ncFault(impl.ErrName))
	}
	for i := len(s.blocks) - 1; i >= 0; i-- {
		for _, own := range s.all(s.blocks[i], 'O') {
			if own.Cmp(number[0]) == 0 {
				found = i
			}
		}
	}
	switch {
	case found < 0:
		panic(ncFault(impl.ErrNone))
	case rounds.Sign() <= 0:
		panic(ncFault(impl.ErrRange))
	case len(s.calls) >= 8:
		panic(ncFault(impl.ErrMany))
	}
	s.calls = append(s.calls, [3]*big.Int{big.NewInt(int64(found)), rounds, big.NewInt(int64(next))})
	return found
}

// exactRun goes by the document's words.
func exactRun(text string) (log impl.NcLog) {
	blocks, code, line := exactBlocks(text)
	if code != impl.OK {
		return impl.NcLog{Code: code, Line: line}
	}
	s := &ncStand{blocks: blocks, g: map[string]bool{"fast": true}}
	for i := range s.vars {
		s.vars[i] = new(big.Int)
	}
	for axis := range s.place {
		s.place[axis] = new(big.Int)
	}
	defer func() {
		if fault, thrown := recover().(ncFault); thrown {
			s.log.Code = int(fault)
		} else {
			s.log.Line = 0
		}
		for _, n := range s.vars {
			s.log.Vars = append(s.log.Vars, int(n.Int64()))
		}
		log = s.log
	}()
	for done, next := 0, 0; next < len(blocks); done++ {
		b := blocks[next]
		s.log.Line = next + 1
		if done == 2000 {
			panic(ncFault(impl.ErrFull))
		}
		if b.Set > 0 {
			s.set(b)
			next++
			continue
		}
		s.prepare(b)
		s.move(b)
		next = s.extras(b, next+1)
	}
	return impl.NcLog{}
}

func checkRunByWords(t *testing.T, text string) impl.NcLog {
	t.Helper()
	got, want := impl.NcRun(text), exactRun(text)
	if !sameLog(got, want) {
		t.Fatalf("NcRun(%q): %s, not %s", text, short(got), short(want))
	}
	return got
}

// drawnLine: a block that is mostly one that can be done.
func drawnLine(draw *rand.Rand) string {
	n := func() string {
		switch draw.Intn(12) {
		case 0:
			return fmt.Sprintf("#%d", 1+draw.Intn(20))
		case 1:
			return fmt.Sprint(draw.Intn(200003) - 100001)
		}
		return fmt.Sprint(draw.Intn(19) - 9)
	}
	variable := func() string { return fmt.Sprintf("#%d", 1+draw.Intn(4)) }
	if draw.Intn(5) == 0 {
		return variable() + "=" + []string{n(), variable()}[draw.Intn(2)] + []string{"", "+" + variable(), "-" + n(), "*" + n(), "/" + n(), "+1"}[draw.Intn(6)]
	}
	var words []string
	for _, letter := range "XYZRFST" {
		odds := map[rune]int{'X': 2, 'Y': 3, 'Z': 3, 'R': 4, 'F': 9, 'S': 15, 'T': 15}[letter]
		if draw.Intn(odds) == 0 {
			value := n()
			if strings.ContainsRune("FST", letter) && draw.Intn(9) > 0 {
				value = fmt.Sprint(1 + draw.Intn(9))
			}
			words = append(words, string(letter)+value)
		}
	}
	for range draw.Intn(3) {
		words = append(words, []string{"G0", "G0", "G1", "G90", "G91", "G80", "G80", "G" + variable(), "G0", "G1"}[draw.Intn(10)])
	}
	if draw.Intn(12) == 0 {
		words = append(words, "G81")
		if text := strings.Join(words, " "); draw.Intn(9) > 0 {
			for _, letter := range "RZ" {
				if !strings.ContainsRune(text, letter) {
					words = append(words, string(letter)+n())
				}
			}
		}
	}
	if draw.Intn(4) == 0 {
		words = append(words, fmt.Sprintf("M%d", draw.Intn(9)))
	}
	draw.Shuffle(len(words), func(i, j int) { words[i], words[j] = words[j], words[i] })
	return strings.Join(words, " ")
}

// drawnProgram: blocks with calls, rounds, ends and O anywhere.
func drawnProgram(draw *rand.Rand) string {
	var lines []string
	if draw.Intn(3) > 0 {
		lines = append(lines, "F5")
	}
	count := 1 + draw.Intn(14)
	for range count {
		line := drawnLine(draw)
		if !strings.Contains(line, "=") {
			switch draw.Intn(8) {
			case 0:
				line += fmt.Sprintf(" M98 P%d", draw.Intn(4))
			case 1:
				line += fmt.Sprintf(" M98 P#%d L%d", 1+draw.Intn(4), draw.Intn(5))
			case 2:
				line += fmt.Sprintf(" L%d P%d M98 M%d", 1+draw.Intn(900), draw.Intn(4), []int{98, 99, 5, 30}[draw.Intn(4)])
			case 3:
				line += " M99"
			case 4:
				line += []string{" M30", " M99 M99", " M99"}[draw.Intn(3)]
			}
			if draw.Intn(4) == 0 {
				line = []string{"O#1 ", "O#2 ", "O0 ", "O1 ", "O2 ", "O3 "}[draw.Intn(6)] + line
			}
		}
		lines = append(lines, line)
	}
	return strings.Join(lines, "\n") + []string{"", "\n"}[draw.Intn(2)]
}

func TestDrawnProgramsByWords(t *testing.T) {
	draw := rand.New(rand.NewSource(26))
	codes, acts, lines := map[int]int{}, 0, 0
	for i := range 25000 {
		text := drawnProgram(draw)
		if i%2 == 0 {
			text = strings.ReplaceAll(drawnRoll(draw).text(draw), "L4", "L300")
		}
		log := checkRunByWords(t, text)
		codes[log.Code]++
		acts += len(log.Acts)
		lines += log.Line
	}
	for _, code := range []int{impl.OK, impl.ErrRange, impl.ErrName, impl.ErrNone, impl.ErrMany, impl.ErrZero, impl.ErrState, impl.ErrKind, impl.ErrFull} {
		if codes[code] < 100 {
			t.Error("the programs are poor", codes)
		}
	}
	if acts < 100000 || lines < 40000 {
		t.Error("the programs are poor", acts, lines)
	}
}

// rollProgram: sub-programs with calls of later ones, each a list of lines.
type rollProgram struct {
	subs [][]string // the first is the program itself
}

// text: the program ends, and each sub-program has an O and an end of a round.
func (r rollProgram) text(draw *rand.Rand) string {
	text := ""
	for i, lines := range r.subs {
		if i == 0 {
			text += strings.Join(lines, "\n") + "\nM30\n"
			continue
		}
		body := slices.Clone(lines)
		own := fmt.Sprintf("O%d", 10+i)
		if !strings.Contains(body[0], "=") && draw.Intn(2) == 0 {
			body[0] += " " + own
		} else {
			body = append([]string{own}, body...)
		}
		if last := len(body) - 1; !strings.Contains(body[last], "=") && !strings.Contains(body[last], "M98") && draw.Intn(2) == 0 {
			body[last] += " M99"
		} else {
			body = append(body, "M99")
		}
		text += strings.Join(body, "\n") + "\n"
	}
	return text
}

// rolledOut: the lines of a sub-program, with those of others in place of their calls.
func (r rollProgram) rolledOut(sub int) []string {
	var lines []string
	for _, line := range r.subs[sub] {
		words, ahead := strings.Fields(line), []string{}
		called, rounds, calls := 0, 1, false
		for _, w := range words {
			switch {
			case w == "M98":
				calls = true
			case w[0] == 'P':
				fmt.Sscanf(w, "P%d", &called)
			case w[0] == 'L':
				fmt.Sscanf(w, "L%d", &rounds)
			default:
				ahead = append(ahead, w)
			}
		}
		lines = append(lines, strings.Join(ahead, " "))
		if calls {
			lines = append(lines, slices.Repeat(r.rolledOut(called-10), rounds)...)
		}
	}
	return lines
}

func drawnRoll(draw *rand.Rand) rollProgram {
	count := 2 + draw.Intn(4)
	r := rollProgram{subs: make([][]string, count)}
	for i := range r.subs {
		for range 1 + draw.Intn(4) {
			line := drawnLine(draw)
			if i+1 < count && !strings.Contains(line, "=") && draw.Intn(2) == 0 {
				line += fmt.Sprintf(" M98 P%d", 10+i+1+draw.Intn(count-i-1))
				if draw.Intn(2) == 0 {
					line += fmt.Sprintf(" L%d", 1+draw.Intn(4))
				}
			}
			r.subs[i] = append(r.subs[i], line)
		}
	}
	r.subs[0] = append([]string{"F7"}, r.subs[0]...)
	return r
}

// A sub-program that is called does what its blocks do, written as often.
func TestSubProgramsDoWhatTheirBlocksDo(t *testing.T) {
	draw := rand.New(rand.NewSource(27))
	whole, long, stopped := 0, 0, 0
	for range 15000 {
		r := drawnRoll(draw)
		lines := r.rolledOut(0)
		if len(lines) > impl.MaxBlocks {
			continue
		}
		called, written := impl.NcRun(r.text(draw)), impl.NcRun(strings.Join(lines, "\n"))
		if called.Code != written.Code || !slices.Equal(called.Acts, written.Acts) || !slices.Equal(called.Vars, written.Vars) {
			t.Fatal("NcRun", r, short(called), "not", short(written))
		}
		switch {
		case written.Code != impl.OK:
			stopped++
		case len(lines) > 30:
			long++
		default:
			whole++
		}
	}
	if whole < 1000 || long < 100 || stopped < 500 {
		t.Error("the programs are poor", whole, long, stopped)
	}
}

func checkAlike(t *testing.T, text, other string) {
	t.Helper()
	if got, want := impl.NcRun(other), impl.NcRun(text); !sameLog(got, want) {
		t.Fatalf("NcRun(%q): %s, not %s of %q", other, short(got), short(want), text)
	}
}

// withNumbers puts a number ahead of each line.
func withNumbers(text string) string {
	numbered, number := "", 0
	for line := range strings.Lines(text) {
		number += 10
		numbered += fmt.Sprintf("N%d %s", number, line)
	}
	return numbered
}

// Remarks, blanks and numbers of blocks change nothing.
func TestWhatIsLeftOutOfProgramsChangesNothing(t *testing.T) {
	draw := rand.New(rand.NewSource(28))
	for range 2000 {
		text := strings.TrimSuffix(drawnProgram(draw), "\n") + "\n"
		numbered := withNumbers(text)
		for _, other := range []string{
			stuffed(draw, text), numbered, stuffed(draw, numbered), strings.TrimSuffix(text, "\n"), strings.ReplaceAll(text, " ", ""), strings.ReplaceAll(text, "\n", " ; X1 M30\n"), strings.ReplaceAll(text, "\n", " (X1 M30\n"),
		} {
			checkAlike(t, text, other)
		}
	}
}

// What stands behind the end, or is called never, changes nothing.
func TestWhatIsNeverDoneChangesNothing(t *testing.T) {
	draw := rand.New(rand.NewSource(31))
	for range 2000 {
		called := drawnRoll(draw).text(draw)
		checkAlike(t, called, called+"O77 X5 M5\n#1=7\nM99\n")
		checkAlike(t, called, called+"O11 X5 M5\n#1=7\nM98 P11\nM99\n")
		straight := ""
		for range draw.Intn(6) {
			straight += drawnLine(draw) + "\n"
		}
		checkAlike(t, straight, straight+"M30\n"+called)
		checkAlike(t, straight, straight+"M30 M98 M99\nO5 T10\n#1=1/0\nM99")
	}
}

// What a program did up to a line does not hang on what follows it.
func TestProgramsByTheirBeginnings(t *testing.T) {
	draw := rand.New(rand.NewSource(29))
	for range 2000 {
		var lines []string
		for range 1 + draw.Intn(8) {
			lines = append(lines, drawnLine(draw))
		}
		whole := impl.NcRun(strings.Join(lines, "\n"))
		for count := range lines {
			part := impl.NcRun(strings.Join(lines[:count], "\n"))
			if len(part.Acts) > len(whole.Acts) || !slices.Equal(part.Acts, whole.Acts[:len(part.Acts)]) || part.Code != impl.OK && !sameLog(part, whole) {
				t.Fatal("NcRun", lines, count, short(part), short(whole))
			}
		}
	}
}

func spoilWords(list []impl.Word) {
	for i := range list[:cap(list)] {
		list[:cap(list)][i] = impl.Word{Letter: 77, Var: true, Num: 77}
	}
}

func spoilBlocks(list []impl.Block) {
	for _, b := range list {
		spoilWords(b.Words)
	}
	for i := range list[:cap(list)] {
		list[:cap(list)][i] = setBy(9, plain(9), 'q', plain(9))
	}
}

func TestProgramAnswersAreNewMemory(t *testing.T) {
	for _, bars := range []string{"", "|", "X1", "X1 Y2|X3 Z4|#1=2|N5", "F1 G81 R1 Z2 X3 M5|#3=#4+1", "X1 X1", "q", "M98 P1 L3|M30|O1 M5|#1=#1+1|M99", "#1=5|#1=1/0", "T1 T1", "M99", strings.Repeat("X1|", 501)} {
		text := program(bars)
		all := func() string {
			blocks, code, line := impl.NcParse(text)
			told, toldCode := impl.NcText(blocks)
			log := impl.NcRun(text)
			first := fmt.Sprint(blocks, code, line, told, toldCode, log)
			// No two lists of one answer share memory: one that is spoilt leaves the others.
			for i, b := range blocks {
				kept := fmt.Sprint(blocks[i+1:])
				spoilWords(b.Words)
				if fmt.Sprint(blocks[i+1:]) != kept {
					t.Error("two lists of one answer share memory", bars)
				}
			}
			vars := fmt.Sprint(log.Vars)
			for i := range log.Acts[:cap(log.Acts)] {
				log.Acts[:cap(log.Acts)][i] = impl.Act{Kind: 77, Num: 77}
			}
			if fmt.Sprint(log.Vars) != vars {
				t.Error("two lists of one answer share memory", bars)
			}
			spoilNumbers(log.Vars[:cap(log.Vars)])
			spoilBlocks(blocks)
			return first
		}
		first := all()
		if again := all(); again != first {
			t.Error("answers share memory", short(bars), short(first), short(again))
		}
	}
}

func TestBlocksHandedInAreNotChanged(t *testing.T) {
	draw := rand.New(rand.NewSource(30))
	for range 500 {
		list := append(drawnBlocks(draw, 5), spoiltBlock(draw, drawnBlock(draw)))
		for i := range list { // room behind each list of words
			list[i].Words = append(list[i].Words, word('q', 1), word('q', 2))[:len(list[i].Words)]
		}
		array := append(slices.Clone(list), setTo(77, plain(77)), impl.Block{N: 77})
		tell := func() string {
			told := fmt.Sprint(array)
			for _, b := range list {
				told += fmt.Sprint(b.Words[:len(b.Words)+2])
			}
			return told
		}
		before := tell()
		impl.NcText(array[:len(list)])
		if after := tell(); after != before {
			t.Fatal("an argument was changed", before, after)
		}
	}
}

// programCalls: calls of every function of the layer, right, at an edge and wrong.
func programCalls() []func() string {
	var calls []func() string
	tell := func(call func() string) { calls = append(calls, call) }
	for _, bars := range []string{
		"", "|", "X1", "N10 G1 X#2 (go) Y -4; more||#3 = #1*-2|N7", "X1 X1", "q", "#1=1/0", "F1 G81 R1 Z2 X3 M5|#3=#4+1|X1", "M98 P1 L3|M30|O1 M5|#1=#1+1|M99", "O1|M98 P1", "M98 P1 L5000|M30|O1|M99", "G1 X1", "G2", "X100001", "#1=999999999999999999*99",
		strings.Repeat("M5|", 500), strings.Repeat("|", 501), strings.Repeat(" ", impl.MaxText), strings.Repeat(" ", impl.MaxText+1),
	} {
		text := program(bars)
		tell(func() string { return fmt.Sprint(impl.NcParse(text)) })
		tell(func() string { return fmt.Sprint(impl.NcRun(text)) })
		tell(func() string {
			blocks, _, _ := impl.NcParse(text)
			return fmt.Sprint(impl.NcText(blocks))
		})
	}
	for _, blocks := range [][]impl.Block{nil, {{}}, {wordsOf(word('X', 1))}, {wordsOf(word('q', 1))}, {{N: least}}, {setTo(greatest, plain(least))}, make([]impl.Block, 501), make([]impl.Block, 4097)} {
		tell(func() string { return fmt.Sprint(impl.NcText(blocks)) })
	}
	return calls
}
