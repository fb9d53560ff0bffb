package tests

import (
	"fmt"
	"regexp"
	"slices"
	"strings"
	"testing"

	"loop.example/g00056/impl"
)

// consoleForms are the chapter's table, a # for each number.
var consoleForms = []string{
	"param NAME TERM", "eval TERM",
	"block NAME # # # # # #", "block NAME # # # # # # NAME #", "pocket NAME # # # # # #", "pocket NAME # # # # # # NAME #", "row NAME NAME # # # #",
	"drop NAME", "off NAME", "back NAME",
	"build", "faces", "section #", "layers", "print", "mill # #",
	"save", "diff", "link NAME # # # #", "chain # #", "fit # # # #", "nc",
}

var consolePatterns = patternsOf(consoleForms)

// patternsOf: words with blanks between, ahead and behind; a term is all that
// stands behind one blank, if that has a word.
func patternsOf(forms []string) []*regexp.Regexp {
	var patterns []*regexp.Regexp
	for _, form := range forms {
		form, term := strings.CutSuffix(form, " TERM")
		pattern := "^ *" + strings.ReplaceAll(form, " ", " +")
		pattern = strings.ReplaceAll(pattern, "NAME", "([^ ]+)")
		pattern = strings.ReplaceAll(pattern, "#", "(0|-?[1-9][0-9]{0,17})")
		if term {
			pattern += " (.*[^ ].*)$"
		} else {
			pattern += " *$"
		}
		patterns = append(patterns, regexp.MustCompile(pattern))
	}
	return patterns
}

// A consoleStand is what the console has, as the chapter tells it.
type consoleStand struct {
	params      []impl.Param
	list, saved []impl.Feature
	off         []string
	links       []impl.Link
	asked       int
}

// exactConsole goes by the table's words; for what a line calls it asks the
// other chapters, which have tests of their own.
func exactConsole(text string) (string, int) {
	switch {
	case len(text) > 65536:
		return "", impl.ErrLong
	case consoleLines(text) > 200:
		return "", impl.ErrMany
	}
	var s consoleStand
	told := ""
	for text != "" {
		line, rest, _ := strings.Cut(text, "\n")
		said := ""
		said, text = s.line(line, rest)
		told += said
	}
	return told, impl.OK
}

// consoleLines: a byte 10 ends each line but perhaps the last one.
func consoleLines(text string) int {
	lines := strings.Count(text, "\n")
	if text != "" && text[len(text)-1] != '\n' {
		lines++
	}
	return lines
}

// line answers what is said, and which text is still to be done.
func (s *consoleStand) line(line, rest string) (string, string) {
	if bare := strings.TrimLeft(line, " "); bare == "" || bare[0] == '#' {
		return "", rest
	}
	for i, pattern := range consolePatterns {
		words := pattern.FindStringSubmatch(line)
		if words == nil {
			continue
		}
		if consoleForms[i] == "nc" {
			return exactNcTold(rest)
		}
		return s.ask(strings.Fields(consoleForms[i])[0], words[1:]), rest
	}
	return "error syntax\n", rest
}

func exactNcTold(rest string) (string, string) {
	program := ""
	for rest != "" {
		line, behind, _ := strings.Cut(rest, "\n")
		rest = behind
		if line == "end" {
			log := impl.NcRun(program)
			if log.Code != impl.OK {
				return fmt.Sprintf("error %s %d\n", impl.CodeWord(log.Code), log.Line), rest
			}
			return fmt.Sprintf("acts %d\n", len(log.Acts)), rest
		}
		program += line + "\n"
	}
	return "error syntax\n", ""
}

func (s *consoleStand) ask(word string, words []string) string {
	switch word {
	case "build", "faces", "section", "layers", "print", "mill":
		s.asked++
		if s.asked > 20 {
			return "error many\n"
		}
		return s.tellPart(word, wordNumbers(words))
	case "param", "eval":
		return s.tellTerm(word, words)
	case "link", "chain", "fit":
		return s.tellSizes(word, words)
	}
	return s.tellFeatures(word, words)
}

func wordNumbers(words []string) []int {
	numbers := make([]int, len(words))
	for i, word := range words {
		fmt.Sscan(word, &numbers[i])
	}
	return numbers
}

// toldOr is what is told, or the error of a code.
func toldOr(code int, form string, told ...any) string {
	if code != impl.OK {
		return "error " + impl.CodeWord(code) + "\n"
	}
	return fmt.Sprintf(form, told...)
}

func (s *consoleStand) tellTerm(word string, words []string) string {
	if word == "eval" {
		value, code := impl.Eval(s.params, words[0])
		text, _ := impl.FracText(value.F)
		return toldOr(code, "value %s %d\n", text, value.Dim)
	}
	var params []impl.Param
	for _, p := range s.params {
		if p.Name != words[0] {
			params = append(params, p)
		}
	}
	params = append(params, impl.Param{Name: words[0], Text: words[1]})
	_, code, _ := impl.ParamOrder(params)
	if code == impl.OK {
		s.params = params
	}
	return toldOr(code, "ok\n")
}

func (s *consoleStand) tellSizes(word string, words []string) string {
	switch n := wordNumbers(words); word {
	case "fit":
		kind, least, most, code := impl.FitKind(n[0], n[1], n[2], n[3])
		return toldOr(code, "fit %d %d %d\n", kind, least, most)
	case "chain":
		ends, code := impl.ChainOf(s.links)
		safe := map[bool]string{true: "safe", false: "unsafe"}[n[0] <= ends.Least && ends.Most <= n[1]]
		return toldOr(code, "chain %d %d %s\n", ends.Least, ends.Most, safe)
	default:
		links := append(slices.Clone(s.links), link(words[0], n[1], n[2], n[3], n[4]))
		_, code := impl.ChainOf(links)
		if code == impl.OK {
			s.links = links
		}
		return toldOr(code, "ok\n")
	}
}

func (s *consoleStand) tellFeatures(word string, words []string) string {
	n := wordNumbers(words)
	switch word {
	case "block", "pocket":
		f := fill(words[0], box(n[1], n[2], n[3], n[4], n[5], n[6]))
		if word == "pocket" {
			f.Kind = impl.FtPocket
		}
		if len(words) > 7 {
			f = stand(words[7], n[8], f)
		}
		return s.tellList(append(slices.Clone(s.list), f))
	case "row":
		return s.tellList(append(slices.Clone(s.list), again(words[0], words[1], n[2], n[3], n[4], n[5])))
	case "drop":
		if !slices.Contains(namesOf(s.list), words[0]) {
			return "error none\n"
		}
		return s.tellList(slices.DeleteFunc(slices.Clone(s.list), func(f impl.Feature) bool { return f.Name == words[0] }))
	case "save":
		s.saved = s.list
		return "ok\n"
	case "diff":
		return editsSaid(s.saved, s.list)
	}
	return s.tellOff(word, words[0])
}

func editsSaid(saved, list []impl.Feature) string {
	edits, _ := impl.Edits(saved, list)
	told := ""
	for _, e := range edits {
		told += []string{impl.EdAdd: "add ", impl.EdDrop: "drop ", impl.EdTurn: "turn "}[e.Kind] + e.Name + "\n"
	}
	if told == "" {
		return "same\n"
	}
	return told
}

// tellList takes a list if it is right; what is not in it is not off.
func (s *consoleStand) tellList(list []impl.Feature) string {
	_, code, _ := impl.FeatureOrder(list)
	if code == impl.OK {
		s.list = list
		s.off = slices.DeleteFunc(s.off, func(name string) bool { return !slices.Contains(namesOf(list), name) })
	}
	return toldOr(code, "ok\n")
}

func (s *consoleStand) tellOff(word, name string) string {
	isOff := slices.Contains(s.off, name)
	switch {
	case !slices.Contains(namesOf(s.list), name):
		return "error name\n"
	case isOff == (word == "off"):
		return "error twice\n"
	case isOff:
		s.off = slices.DeleteFunc(s.off, func(other string) bool { return other == name })
	default:
		s.off = append(s.off, name)
	}
	return "ok\n"
}

func (s *consoleStand) tellPart(word string, n []int) string {
	part, code, _ := impl.Rebuild(s.list, s.off)
	told := ""
	switch word {
	case "build":
		told = fmt.Sprintf("part %d %d\n", part.Volume, len(part.Faces))
	case "faces":
		for _, f := range part.Faces {
			told += fmt.Sprintf("face %s %d %d %d\n", f.Feature, f.Side, f.Area, f.Pieces)
		}
	case "section":
		var rows []string
		rows, code = impl.Section(s.list, s.off, n[0])
		for y, row := range rows {
			if last := strings.LastIndex(row, "#"); last >= 0 {
				told += fmt.Sprintf("%d %s\n", y, row[:last+1])
			}
		}
	case "layers":
		layers, _ := impl.Layers(s.list, s.off)
		for _, l := range layers {
			told += fmt.Sprintf("layer %d %d %d\n", l.Z, l.Cells, len(l.Runs))
		}
	case "print":
		passes, far, _ := impl.Print(s.list, s.off)
		told = fmt.Sprintf("print %d %d\n", len(passes), far)
	default:
		return s.tellMill(code, n[0], n[1])
	}
	return toldOr(code, "%s", told)
}

func (s *consoleStand) tellMill(code, r, step int) string {
	if code != impl.OK {
		return toldOr(code, "")
	}
	part := columnsOf(s.list, s.off)
	stock := level(part.W, part.H, slices.Max(part.Tops))
	moves, code := impl.Zigzag(stock, part, r, step)
	milled := impl.Mill(stock, part, r, moves)
	rest := 0
	for i, top := range milled.Field.Tops {
		rest += top - part.Tops[i]
	}
	return toldOr(code, "mill %d %d %d %d\n", len(moves), milled.Cut, milled.Air, rest)
}

// columnsOf is a part's field by its sections, from the lowest on.
func columnsOf(list []impl.Feature, off []string) impl.Field {
	var tops [impl.Grid][impl.Grid]int
	f := impl.Field{W: 1, H: 1}
	for z := range impl.Grid {
		rows, _ := impl.Section(list, off, z)
		for y, row := range rows {
			for x, sign := range row {
				if sign == '#' {
					tops[y][x] = z + 1
					f.W, f.H = max(f.W, x+1), max(f.H, y+1)
				}
			}
		}
	}
	for y := range f.H {
		f.Tops = append(f.Tops, tops[y][:f.W]...)
	}
	return f
}

// checkConsole holds what is said of a text against the table's words; it answers
// what is said, and the code.
func checkConsole(t *testing.T, text string) (string, int) {
	t.Helper()
	got, code := impl.Console(text)
	if want, wantCode := exactConsole(text); got != want || code != wantCode {
		t.Errorf("Console(%q):\n%q %d, not\n%q %d", short(text), short(got), code, short(want), wantCode)
	}
	if got != "" && got[len(got)-1] != '\n' {
		t.Errorf("Console(%q) says no end of a line: %q", short(text), short(got))
	}
	return got, code
}

// A turn is lines that belong together, and what is said of them, as in
// "nc|F1|end -> acts 0". Of several lines that are said a | is between, too.
func checkTalk(t *testing.T, turns ...string) {
	t.Helper()
	lines, wants := make([]string, len(turns)), make([]string, len(turns))
	for i, turn := range turns {
		line, want, says := strings.Cut(turn, " -> ")
		lines[i] = strings.ReplaceAll(line, "|", "\n") + "\n"
		if says {
			wants[i] = strings.ReplaceAll(want, "|", "\n") + "\n"
		}
	}
	text, want := strings.Join(lines, ""), strings.Join(wants, "")
	got, code := checkConsole(t, text)
	if got != want || code != impl.OK {
		t.Errorf("Console(%q):\n%q %d, not\n%q", text, got, code, want)
	}
	checkFirstLines(t, lines, got)
}

// checkFirstLines: what is said of the first lines is the beginning of what is
// said of all of them, whether the last one of them is ended or not.
func checkFirstLines(t *testing.T, turns []string, all string) {
	t.Helper()
	told := ""
	for n := range len(turns) + 1 {
		text := strings.Join(turns[:n], "")
		got, code := impl.Console(text)
		if code != impl.OK || !strings.HasPrefix(all, got) || !strings.HasPrefix(got, told) {
			t.Fatalf("Console(%q):\n%q %d, of which all is\n%q", text, got, code, all)
		}
		told = got
		if cut, code := impl.Console(strings.TrimSuffix(text, "\n")); cut != got || code != impl.OK {
			t.Fatalf("Console(%q):\n%q %d, not\n%q", strings.TrimSuffix(text, "\n"), cut, code, got)
		}
	}
	if told != all {
		t.Fatalf("Console says %q at last, not %q", told, all)
	}
}
