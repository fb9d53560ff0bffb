package tests

import (
	"fmt"
	"math/rand"
	"slices"
	"strings"
	"testing"

	"loop.example/g00056/impl"
)

// drawnTerm answers a term of a drawn shape and its nodes, made side by side:
// the text has blanks and parentheses that need not be there.
func drawnTerm(draw *rand.Rand, deep int, names []string) (string, []impl.Node) {
	var nodes []impl.Node
	blank := func() string { return []string{"", "", " ", "\t", "\r\n "}[draw.Intn(5)] }
	var part func(deep, level int) string
	add := func(n impl.Node) int {
		nodes = append(nodes, n)
		return len(nodes) - 1
	}
	group := func(text string, own, level int) string {
		if own < level || draw.Intn(5) == 0 {
			text = "(" + text + ")"
		}
		return blank() + text + blank()
	}
	part = func(deep, level int) string {
		kind := impl.TmNum + draw.Intn(9)
		if deep == 0 {
			kind = impl.TmNum + draw.Intn(2)
		}
		switch {
		case kind == impl.TmNum:
			text, node := drawnNumber(draw)
			add(node)
			return group(text, 3, level)
		case kind == impl.TmName:
			of := names[draw.Intn(len(names))]
			add(name(of))
			return group(of, 3, level)
		case kind == impl.TmCall:
			of, text, kids := []string{"min", "max", "abs", "f"}[draw.Intn(4)], "", []int{}
			for i := range 1 + draw.Intn(3) {
				if i > 0 {
					text += ","
				}
				text += part(deep-1, 0)
				kids = append(kids, len(nodes)-1)
			}
			add(call(of, kids...))
			return group(of+blank()+"("+text+")", 3, level)
		case kind <= impl.TmMinus:
			text := part(deep-1, 2)
			add(op(kind, len(nodes)-1))
			return group(string("+-"[kind-impl.TmPlus])+text, 2, level)
		}
		own := (kind - impl.TmAdd) / 2
		left := part(deep-1, own)
		first := len(nodes) - 1
		right := part(deep-1, own+1)
		add(op(kind, first, len(nodes)-1))
		return group(left+string("+-*/"[kind-impl.TmAdd])+right, own, level)
	}
	return part(deep, 0), nodes
}

func drawnNumber(draw *rand.Rand) (string, impl.Node) {
	numbers := []struct {
		text string
		node impl.Node
	}{
		{"0", num(0, 1, 0)}, {"1", num(1, 1, 0)}, {"2.50", num(5, 2, 0)}, {"0.125", num(1, 8, 0)}, {"3mm", num(3, 1, 1)}, {"0.4cm", num(4, 1, 1)},
		{"0.001m", num(1, 1, 1)}, {"5in", num(127, 1, 1)}, {"0.000000mm", num(0, 1, 1)}, {"7", num(7, 1, 0)},
	}
	drawn := numbers[draw.Intn(len(numbers))]
	return drawn.text, drawn.node
}

func TestTermTextOrdinary(t *testing.T) {
	for _, c := range []struct{ text, want string }{
		{"0", "0"}, {"0.0", "0"}, {"0.000", "0"}, {"0cm", "0mm"}, {"10", "10"}, {"100.0", "100"}, {"10.10", "10.1"}, {"0.000001", "0.000001"}, {"0.100000", "0.1"}, {"999999999", "999999999"},
		{"999.999999", "999.999999"}, {"1cm", "10mm"}, {"1m", "1000mm"}, {"1in", "25.4mm"}, {"0.00001in", "0.000254mm"}, {"2.5mm", "2.5mm"}, {"999999m", "999999000mm"},
		{"a", "a"}, {"((a))", "a"}, {" a ", "a"}, {"-a", "-a"}, {"- + - a", "-+-a"}, {"-(-a)", "--a"}, {"-(a)", "-a"}, {"(-a)", "-a"},
		{"a+b", "a + b"}, {"a-b", "a - b"}, {"a*b", "a * b"}, {"a/b", "a / b"}, {"a- -b", "a - -b"}, {"a-(-b)", "a - -b"}, {"a*(-b)", "a * -b"}, {"(-a)*b", "-a * b"}, {"-(a*b)", "-(a * b)"}, {"-(a+b)", "-(a + b)"},
		{"(a+b)+c", "a + b + c"}, {"a+(b+c)", "a + (b + c)"}, {"a+(b-c)", "a + (b - c)"}, {"(a-b)+c", "a - b + c"}, {"a-(b+c)", "a - (b + c)"},
		{"(a*b)*c", "a * b * c"}, {"a*(b*c)", "a * (b * c)"}, {"a*(b/c)", "a * (b / c)"}, {"(a/b)/c", "a / b / c"}, {"a/(b/c)", "a / (b / c)"},
		{"(a*b)+c", "a * b + c"}, {"a+(b*c)", "a + b * c"}, {"(a+b)*c", "(a + b) * c"}, {"a*(b+c)", "a * (b + c)"}, {"(a-b)/(c-d)", "(a - b) / (c - d)"},
		{"f((a))", "f(a)"}, {"f ( a,b ,c )", "f(a, b, c)"}, {"f((a+b),(c*d))", "f(a + b, c * d)"}, {"-f(a)", "-f(a)"}, {"(f(a))*2", "f(a) * 2"}, {"mm(1mm)", "mm(1mm)"}, {"дом+ß", "дом + ß"},
	} {
		nodes, code, _ := impl.ReadTerm(c.text)
		told, bad := impl.TermText(nodes)
		if code != impl.OK || bad != impl.OK || told != c.want {
			t.Errorf("%q: %d %d %q, not %q", c.text, code, bad, told, c.want)
		}
	}
}

// Values that no number in millimetres tells have no text.
func TestTermTextOfValuesWithoutText(t *testing.T) {
	for _, text := range []string{"0.000001in", "1.000001in", "1000000m", "100000000cm", "a + 1000000m"} {
		nodes, code, _ := impl.ReadTerm(text)
		if told, bad := impl.TermText(nodes); code != impl.OK || bad != impl.ErrBad || told != "" {
			t.Errorf("%q: %d %d %q", text, code, bad, told)
		}
	}
}

func TestTermTextIsReadAsItWas(t *testing.T) {
	draw := rand.New(rand.NewSource(5))
	for range 20000 {
		text, nodes := drawnTerm(draw, draw.Intn(6), []string{"a", "b", "Größe", "min"})
		read, code, at := impl.ReadTerm(text)
		if code == impl.ErrMany {
			continue
		}
		if code != impl.OK || nodesText(read) != nodesText(nodes) {
			t.Fatalf("%q: %d at %d, %s, not %s", text, code, at, nodesText(read), nodesText(nodes))
		}
		told, bad := impl.TermText(nodes)
		again, code, at := impl.ReadTerm(told)
		if bad != impl.OK || code != impl.OK || nodesText(again) != nodesText(nodes) {
			t.Fatalf("%q, told %q: %d %d at %d", text, told, bad, code, at)
		}
		checkFewParentheses(t, told, nodes)
	}
}

// Without any one of its pairs of parentheses, a group's, the text is another
// term's.
func checkFewParentheses(t *testing.T, told string, nodes []impl.Node) {
	t.Helper()
	var open []int
	for at := range told {
		switch told[at] {
		case '(':
			open = append(open, at)
		case ')':
			from := open[len(open)-1]
			open = open[:len(open)-1]
			without := told[:from] + told[from+1:at] + told[at+1:]
			if read, code, _ := impl.ReadTerm(without); code == impl.OK && nodesText(read) == nodesText(nodes) {
				t.Fatalf("%q needs no parentheses at %d", told, from)
			}
		}
	}
}

func TestTermTextAtTheLimits(t *testing.T) {
	for _, text := range []string{
		strings.Repeat("-", 20) + "1", strings.Repeat("-(a + ", 10) + "1" + strings.Repeat(")", 10), strings.Repeat("f(", 20) + "1" + strings.Repeat(")", 20),
		strings.Repeat("1 + ", 99) + "1", "-(" + strings.Repeat("1 * ", 99) + "1)", "f(" + strings.Repeat("a, ", 198) + "a)", strings.Repeat("n", 40) + "(" + strings.Repeat("д", 20) + ")",
	} {
		nodes, code, _ := impl.ReadTerm(text)
		if told, bad := impl.TermText(nodes); code != impl.OK || bad != impl.OK || told != text {
			t.Errorf("%q: %d %d %q", text, code, bad, told)
		}
	}
	deeper := []impl.Node{name("a")}
	for i := range 21 {
		deeper = append(deeper, op(impl.TmMinus, i))
	}
	more := []impl.Node{num(1, 1, 0)}
	for len(more) < 201 {
		more = append(more, num(1, 1, 0), op(impl.TmAdd, len(more)-1, len(more)))
	}
	for _, nodes := range [][]impl.Node{deeper, more} {
		if told, bad := impl.TermText(nodes); bad != impl.ErrBad || told != "" {
			t.Errorf("%d nodes: %d %q", len(nodes), bad, told)
		}
	}
	if told, bad := impl.TermText(deeper[:21]); bad != impl.OK || told != strings.Repeat("-", 20)+"a" {
		t.Error("twenty signs", bad, told)
	}
	if _, bad := impl.TermText(more[:199]); bad != impl.OK {
		t.Error("199 nodes", bad)
	}
}

func TestTermTextLongLists(t *testing.T) {
	long := make([]impl.Node, impl.MaxList+1)
	if told, bad := impl.TermText(long); bad != impl.ErrLong || told != "" {
		t.Error("one more than the longest", bad)
	}
	if told, bad := impl.TermText(long[:impl.MaxList]); bad != impl.ErrBad || told != "" {
		t.Error("the longest", bad)
	}
}

func TestTermTextOfNodesThatNoTextHas(t *testing.T) {
	many := make([]int, 5000)
	doubled := []impl.Node{name("a")}
	for i := range 100 {
		doubled = append(doubled, op(impl.TmAdd, i, i))
	}
	cases := [][]impl.Node{
		nil, {}, {{}}, {name("")}, {name("9")}, {name("a b")}, {name("a)")}, {name("×")}, {name("a\xff")}, {name(strings.Repeat("a", 41))}, {name(strings.Repeat("a", 1<<20))}, {name("1 + 1")},
		{name("a"), name("b")}, {name("a"), name("b"), op(impl.TmMinus, 1)}, {name("a"), op(impl.TmMinus)}, {name("a"), op(impl.TmMinus, 0, 0)}, {name("a"), op(impl.TmMinus, 1)}, {name("a"), op(impl.TmMinus, -1)}, {op(impl.TmMinus, 0)},
		{op(impl.TmMinus, 1), name("a")}, {name("a"), op(impl.TmMinus, least)}, {name("a"), op(impl.TmMinus, greatest)},
		{name("a"), name("b"), op(impl.TmAdd, 1, 0)}, {name("a"), name("b"), op(impl.TmAdd, 0, 0)}, {name("a"), name("b"), op(impl.TmAdd, 0)}, {name("a"), name("b"), op(impl.TmAdd, 1)}, {name("a"), name("b"), op(impl.TmAdd, 0, 1, 1)}, {name("a"), name("b"), op(impl.TmAdd)},
		{name("a"), name("b"), name("c"), op(impl.TmAdd, 0, 1, 2)}, {name("a"), op(impl.TmMul, 0, 0)}, {op(impl.TmMul)}, {call("f")}, {name("a"), call("f", 0, 0)}, {name("a"), call("f", many...)}, {name("a"), call("", 0)}, {name("a"), call("f g", 0)}, {name("a"), call("9", 0)},
		{name("a"), name("b"), call("f", 1, 0)}, {name("a"), name("b"), call("f", 1)}, doubled,
		{num(1, 0, 0)}, {num(0, 0, 0)}, {num(0, 2, 0)}, {num(2, 2, 0)}, {num(1, -1, 0)}, {num(-1, 1, 0)}, {num(-1, 2, 1)}, {num(1, 3, 0)}, {num(1, 7, 1)}, {num(1, 128, 0)}, {num(1, 10000000, 0)}, {num(1000000000, 1, 0)}, {num(1000000001, 1, 0)},
		{num(least, 1, 0)}, {num(greatest, 1, 0)}, {num(1, least, 0)}, {num(1, greatest, 0)}, {num(least, least, 0)}, {num(1, 1, 2)}, {num(1, 1, -1)}, {num(1, 1, least)}, {num(1, 1, greatest)},
		{{Kind: impl.TmNum, F: impl.Frac{N: 1, D: 1}, Name: "a"}}, {{Kind: impl.TmNum, F: impl.Frac{N: 1, D: 1}, Kids: []int{0}}}, {name("a"), {Kind: impl.TmNum, F: impl.Frac{N: 1, D: 1}, Kids: []int{0}}},
		{{Kind: impl.TmName, Name: "a", F: impl.Frac{N: 1, D: 1}}}, {{Kind: impl.TmName, Name: "a", F: impl.Frac{N: 0, D: 1}}}, {{Kind: impl.TmName, Name: "a", Dim: 1}}, {name("a"), {Kind: impl.TmName, Name: "b", Kids: []int{0}}},
		{name("a"), {Kind: impl.TmMinus, Name: "a", Kids: []int{0}}}, {name("a"), {Kind: impl.TmMinus, Dim: 1, Kids: []int{0}}}, {name("a"), {Kind: impl.TmMinus, F: impl.Frac{D: 1}, Kids: []int{0}}}, {name("a"), {Kind: impl.TmCall, Name: "f", Dim: 1, Kids: []int{0}}},
	}
	for _, kind := range []int{least, -1, 0, 10, 11, greatest} {
		cases = append(cases, []impl.Node{{Kind: kind}}, []impl.Node{{Kind: kind, Name: "a"}}, []impl.Node{name("a"), op(kind, 0)}, []impl.Node{name("a"), name("b"), op(kind, 0, 1)}, []impl.Node{name("a"), {Kind: kind, Name: "f", Kids: []int{0}}})
	}
	for _, nodes := range cases {
		if told, bad := impl.TermText(nodes); bad != impl.ErrBad || told != "" {
			t.Errorf("%.200s: %d %.40q", nodesText(nodes), bad, told)
		}
	}
}

// Nodes that are changed in one thing are another term's, or none's.
func TestTermTextOfChangedNodes(t *testing.T) {
	draw := rand.New(rand.NewSource(7))
	for range 20000 {
		_, nodes := drawnTerm(draw, 1+draw.Intn(3), []string{"a", "b"})
		changed := &nodes[draw.Intn(len(nodes))]
		switch draw.Intn(6) {
		case 0:
			changed.Kind = draw.Intn(11)
		case 1:
			changed.Dim = draw.Intn(4) - 1
		case 2:
			changed.F = impl.Frac{N: draw.Intn(5) - 1, D: draw.Intn(5)}
		case 3:
			changed.Name = []string{"", "a", "f", "1", "a b"}[draw.Intn(5)]
		case 4:
			changed.Kids = append(slices.Clone(changed.Kids), draw.Intn(len(nodes)+1)-1)
		case 5:
			if len(changed.Kids) > 0 {
				changed.Kids[draw.Intn(len(changed.Kids))] += draw.Intn(3) - 1
			}
		}
		told, bad := impl.TermText(nodes)
		if bad == impl.OK {
			if read, code, _ := oracleRead(told); code != impl.OK || nodesText(read) != nodesText(nodes) {
				t.Fatalf("%s is told as %q", nodesText(nodes), told)
			}
		} else if bad != impl.ErrBad || told != "" {
			t.Fatalf("%s: %d %q", nodesText(nodes), bad, told)
		}
	}
}

func TestTermAnswersAreNewMemory(t *testing.T) {
	text := "f(a, b * 2mm, -c) + d"
	first, _, _ := impl.ReadTerm(text)
	kept := nodesText(first)
	second, _, _ := impl.ReadTerm(text)
	for i := range second {
		for k := range second[i].Kids {
			second[i].Kids[k] = 77
		}
		second[i].Kids = append(second[i].Kids[:len(second[i].Kids):cap(second[i].Kids)], 78)
		second[i].Name = "other"
	}
	if nodesText(first) != kept {
		t.Error("two answers share memory")
	}
	for i := range first {
		spare := first[i].Kids[:cap(first[i].Kids)]
		for k := len(first[i].Kids); k < len(spare); k++ {
			spare[k] = 99
		}
	}
	if nodesText(first) != kept {
		t.Error("lists of one answer share memory")
	}
	if _, bad := impl.TermText(first); bad != impl.OK || nodesText(first) != kept {
		t.Error("TermText changed its nodes", bad)
	}
}

func TestTermTextWritesNotIntoItsNodes(t *testing.T) {
	behind := []impl.Node{name("a"), name("b"), op(impl.TmAdd, 0, 1), name("kept")}
	behind[2].Kids = append(make([]int, 0, 8), 0, 1)
	before := fmt.Sprint(behind, behind[2].Kids[:8])
	if told, bad := impl.TermText(behind[:3]); told != "a + b" || bad != impl.OK || fmt.Sprint(behind, behind[2].Kids[:8]) != before {
		t.Error(told, bad, behind)
	}
}
