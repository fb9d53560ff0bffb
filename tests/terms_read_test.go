package tests

import (
	"fmt"
	"math/big"
	"math/rand"
	"regexp"
	"slices"
	"strings"
	"testing"

	"loop.example/g00056/impl"
)

// nodesText tells nodes so that an empty list and nil are the same.
func nodesText(nodes []impl.Node) string {
	told := ""
	for _, n := range nodes {
		told += fmt.Sprintf("{%d %q %d/%d %d %v}", n.Kind, n.Name, n.F.N, n.F.D, n.Dim, append([]int{}, n.Kids...))
	}
	return told
}

func num(n, d, dim int) impl.Node {
	return impl.Node{Kind: impl.TmNum, F: impl.Frac{N: n, D: d}, Dim: dim}
}

func name(of string) impl.Node { return impl.Node{Kind: impl.TmName, Name: of} }

func call(of string, kids ...int) impl.Node {
	return impl.Node{Kind: impl.TmCall, Name: of, Kids: kids}
}

func op(kind int, kids ...int) impl.Node { return impl.Node{Kind: kind, Kids: kids} }

func TestTermLimits(t *testing.T) {
	got := []int{impl.MaxNest, impl.MaxNodes, impl.MaxParams, impl.TmNum, impl.TmName, impl.TmCall, impl.TmPlus, impl.TmMinus, impl.TmAdd, impl.TmSub, impl.TmMul, impl.TmDiv}
	if !slices.Equal(got, []int{20, 200, 60, 1, 2, 3, 4, 5, 6, 7, 8, 9}) {
		t.Error(got)
	}
}

func TestReadTermNodes(t *testing.T) {
	for _, c := range []struct {
		text string
		want []impl.Node
	}{
		{"0", []impl.Node{num(0, 1, 0)}},
		{"0.0", []impl.Node{num(0, 1, 0)}},
		{"0.000000mm", []impl.Node{num(0, 1, 1)}},
		{"7", []impl.Node{num(7, 1, 0)}},
		{"999999999", []impl.Node{num(999999999, 1, 0)}},
		{"0.000001", []impl.Node{num(1, 1000000, 0)}},
		{"0.999999", []impl.Node{num(999999, 1000000, 0)}},
		{"2.50", []impl.Node{num(5, 2, 0)}},
		{"1mm", []impl.Node{num(1, 1, 1)}},
		{"1cm", []impl.Node{num(10, 1, 1)}},
		{"1m", []impl.Node{num(1000, 1, 1)}},
		{"1in", []impl.Node{num(127, 5, 1)}},
		{"0.5in", []impl.Node{num(127, 10, 1)}},
		{"0.000001in", []impl.Node{num(127, 5000000, 1)}},
		{"1000000m", []impl.Node{num(1000000000, 1, 1)}},
		{"999.999999", []impl.Node{num(999999999, 1000000, 0)}},
		{"mm", []impl.Node{name("mm")}},
		{"min", []impl.Node{name("min")}},
		{"a1.5", nil},
		{"Größe_2", []impl.Node{name("Größe_2")}},
		{strings.Repeat("д", 20), []impl.Node{name(strings.Repeat("д", 20))}},
		{"+a", []impl.Node{name("a"), op(impl.TmPlus, 0)}},
		{"-a", []impl.Node{name("a"), op(impl.TmMinus, 0)}},
		{"-+-1", []impl.Node{num(1, 1, 0), op(impl.TmMinus, 0), op(impl.TmPlus, 1), op(impl.TmMinus, 2)}},
		{"a+b", []impl.Node{name("a"), name("b"), op(impl.TmAdd, 0, 1)}},
		{"a-b", []impl.Node{name("a"), name("b"), op(impl.TmSub, 0, 1)}},
		{"a*b", []impl.Node{name("a"), name("b"), op(impl.TmMul, 0, 1)}},
		{"a/b", []impl.Node{name("a"), name("b"), op(impl.TmDiv, 0, 1)}},
		{"a-b-c", []impl.Node{name("a"), name("b"), op(impl.TmSub, 0, 1), name("c"), op(impl.TmSub, 2, 3)}},
		{"a-(b-c)", []impl.Node{name("a"), name("b"), name("c"), op(impl.TmSub, 1, 2), op(impl.TmSub, 0, 3)}},
		{"a/b*c", []impl.Node{name("a"), name("b"), op(impl.TmDiv, 0, 1), name("c"), op(impl.TmMul, 2, 3)}},
		{"a+b*c", []impl.Node{name("a"), name("b"), name("c"), op(impl.TmMul, 1, 2), op(impl.TmAdd, 0, 3)}},
		{"(a+b)*c", []impl.Node{name("a"), name("b"), op(impl.TmAdd, 0, 1), name("c"), op(impl.TmMul, 2, 3)}},
		{"-a*b", []impl.Node{name("a"), op(impl.TmMinus, 0), name("b"), op(impl.TmMul, 1, 2)}},
		{"a*-b", []impl.Node{name("a"), name("b"), op(impl.TmMinus, 1), op(impl.TmMul, 0, 2)}},
		{"f(a)", []impl.Node{name("a"), call("f", 0)}},
		{"f\t(\na , b\r)", []impl.Node{name("a"), name("b"), call("f", 0, 1)}},
		{"f(a,g(b,c),d)", []impl.Node{name("a"), name("b"), name("c"), call("g", 1, 2), name("d"), call("f", 0, 3, 4)}},
		{" \t\r\n a \t\r\n ", []impl.Node{name("a")}},
		{"(((a)))", []impl.Node{name("a")}},
	} {
		nodes, code, at := impl.ReadTerm(c.text)
		if c.want == nil {
			if code == impl.OK {
				t.Errorf("%q is read", c.text)
			}
			continue
		}
		if code != impl.OK || at != 0 || nodesText(nodes) != nodesText(c.want) {
			t.Errorf("%q: %d at %d, %s", c.text, code, at, nodesText(nodes))
		}
	}
}

func TestReadTermFaults(t *testing.T) {
	for _, c := range []struct {
		text string
		at   int
	}{
		{"", 0}, {" ", 1}, {"\n\t ", 3}, {"a +", 3}, {"a + ", 4}, {"-", 1}, {"- ", 2}, {"(", 1}, {"(a", 2}, {"(a ", 3}, {"f(", 2}, {"f(a", 3}, {"f(a,", 4}, {"f(a, ", 5},
		{")", 0}, {",", 0}, {"*a", 0}, {"/a", 0}, {"()", 1}, {"( )", 2}, {"f()", 2}, {"f( )", 3}, {"f(,a)", 2}, {"f(a,)", 4}, {"f(a,,b)", 4},
		{"a)", 1}, {"a b", 2}, {"a 1", 2}, {"1 a", 2}, {"1 2", 2}, {"1(2)", 1}, {"a,b", 1}, {"(a,b)", 2}, {"f((a,b))", 4}, {"(a)(b)", 3}, {"f(a)(b)", 4}, {"(a)b", 3}, {"(a)1", 3},
		{"a + * b", 4}, {"a * / b", 4}, {"a + )", 4}, {"f(a +)", 5},
		{"1 mm", 2}, {"1\tmm", 2}, {"1.5 in", 4}, {"12kg", 2}, {"12MM", 2}, {"1mm2", 1}, {"1in_", 1}, {"1inch", 1}, {"1e5", 1}, {"0x10", 1}, {"1_000", 1}, {"1д", 1}, {"1mmд", 1}, {"1.5m5", 3}, {"1mm mm", 4},
		{"1.", 1}, {"1. ", 1}, {"1.a", 1}, {"1..5", 1}, {".5", 0}, {"1.5.2", 3}, {"1. 5", 1}, {"1 .5", 2}, {"1.mm", 1}, {"a.b", 1},
		{"1234567890", 0}, {"a + 1234567890", 4}, {"1234567890.5", 0}, {"1234567890kg", 0}, {strings.Repeat("9", 60), 0},
		{"0.1234567", 0}, {"1.0000000", 0}, {"1.1234567mm", 0}, {"00", 0}, {"01", 0}, {"007", 0}, {"00.5", 0}, {"000000000", 0}, {"a*01mm", 2},
		{"a 12kg", 2}, {"a 1234567890", 2}, {"1 " + strings.Repeat("a", 41), 2},
		{strings.Repeat("a", 41), 0}, {"1 + " + strings.Repeat("д", 21), 4}, {strings.Repeat("a", 41) + "(1)", 0},
		{"@", 0}, {"2 @ 3", 2}, {"a\x00", 1}, {"\x00", 0}, {"a\v", 1}, {"a\f+b", 1}, {"a\u00a0+b", 1}, {"×", 0}, {"a×", 1}, {"a÷b", 1}, {"a%b", 1}, {"a^2", 1}, {"a;b", 1}, {"a'", 1},
		{"\xff", 0}, {"a\xff", 1}, {"a\xc3", 1}, {"1\xc3", 1}, {"a\xc1\x81", 1}, {"a + \xed\xa0\x80", 4}, {"日", 0}, {"a日", 1}, {"a\ufffd", 1},
	} {
		nodes, code, at := impl.ReadTerm(c.text)
		if nodes != nil || code != impl.ErrSyntax || at != c.at {
			t.Errorf("%q: %d at %d, not at %d; %v", c.text, code, at, c.at, nodes)
		}
	}
}

func TestReadTermValuesTooGreat(t *testing.T) {
	for _, c := range []struct {
		text string
		at   int
	}{
		{"1000001m", 0}, {"999999999m", 0}, {"100000001cm", 0}, {"999999999in", 0}, {"1000.000001", 0}, {"500000000.5", 0}, {"39370078in", 0}, {"999999999.999999", 0}, {"a + 1000.000001mm", 4},
		{"0.000001in + 1000.000001", 13}, {"(999999999cm", 1},
	} {
		if nodes, code, at := impl.ReadTerm(c.text); nodes != nil || code != impl.ErrOver || at != c.at {
			t.Errorf("%q: %d at %d, %v", c.text, code, at, nodes)
		}
	}
	for _, text := range []string{"1000000m", "100000000cm", "999999999mm", "999.999999", "1000.00001", "499999999.5", "39370075in", "7.874015in"} {
		if _, code, at := impl.ReadTerm(text); code != impl.OK {
			t.Errorf("%q: %d at %d", text, code, at)
		}
	}
}

func TestReadTermTwoFaults(t *testing.T) {
	full := strings.Repeat("-(", 10)
	for _, c := range []struct {
		text     string
		code, at int
	}{
		{"@ + 1000001m", impl.ErrSyntax, 0},
		{"1000001m + @", impl.ErrOver, 0},
		{"1000001kg", impl.ErrSyntax, 7},
		{"1000001m 5", impl.ErrOver, 0},
		{"1 5 + 1000001m", impl.ErrSyntax, 2},
		{"12kg + 00", impl.ErrSyntax, 2},
		{full + "-@", impl.ErrMany, 20},
		{full + "@-", impl.ErrSyntax, 20},
		{full + "a(@", impl.ErrMany, 21},
		{full + "1000001m(", impl.ErrOver, 20},
		{full + "(1000001m", impl.ErrMany, 20},
		{full + "1)@(" + strings.Repeat("(", 30), impl.ErrSyntax, 22},
	} {
		if _, code, at := impl.ReadTerm(c.text); code != c.code || at != c.at {
			t.Errorf("%q: %d at %d", c.text, code, at)
		}
	}
}

func TestReadTermNests(t *testing.T) {
	for _, opening := range []string{"(", "-", "+", "f(", "f (", "-(", "(-", "+f(", "(( -", "1 - (", "-(1*", "f(1, "} {
		for deep := 1; deep <= 24; deep++ {
			text, depth, fault := "", 0, -1
			for depth < deep {
				for _, r := range opening {
					if r == '(' || r == '+' || r == '-' && !strings.HasSuffix(text, "1 ") {
						if depth++; depth == impl.MaxNest+1 {
							fault = len(text)
						}
					}
					text += string(r)
				}
			}
			text += "7"
			for range strings.Count(text, "(") {
				text += ")"
			}
			want := impl.OK
			if fault >= 0 {
				want = impl.ErrMany
			}
			if _, code, at := impl.ReadTerm(text); code != want || at != max(fault, 0) {
				t.Errorf("%q: %d at %d, not %d at %d", text, code, at, want, fault)
			}
		}
	}
}

// Things that stand beside one another are not within one another.
func TestReadTermBesideIsNotWithin(t *testing.T) {
	inner := strings.Repeat("(", 19) + "1" + strings.Repeat(")", 19)
	for _, text := range []string{"(" + inner + ") + (" + inner + ")", "-" + inner + "*-" + inner, "f(" + inner + ", " + inner + ")", "-" + inner + " + (" + inner + ")"} {
		if _, code, at := impl.ReadTerm(text); code != impl.OK {
			t.Errorf("%q: %d at %d", text, code, at)
		}
	}
}

func TestReadTermManyNodes(t *testing.T) {
	// ones(k) has 2k - 1 nodes.
	ones := func(k int) string { return strings.Repeat("1+", k-1) + "1" }
	// arguments(k) begins a call with k nodes and a comma behind them.
	arguments := func(k int) string { return "f(" + strings.Repeat("1,", k) }
	for _, c := range []struct {
		text     string
		code, at int
	}{
		{ones(100), impl.OK, 0},
		{"-(" + ones(100) + ")", impl.OK, 0},
		{"f(" + ones(100) + ")", impl.OK, 0},
		{"-f(" + ones(100) + ")", impl.ErrMany, 0},
		{"--(" + ones(100) + ")", impl.ErrMany, 0},
		{"f(-(" + ones(100) + "))", impl.ErrMany, 204},
		{ones(101), impl.ErrMany, 199},
		{ones(101) + "@", impl.ErrMany, 199},
		{ones(101) + " 1", impl.ErrMany, 199},
		{ones(100) + "+1*@", impl.ErrSyntax, 202},
		{ones(100) + "+1*1", impl.ErrMany, 202},
		{ones(100) + "+-1", impl.ErrMany, 200},
		{ones(100) + "+(1@", impl.ErrMany, -1},
		{ones(100) + "+x", impl.ErrMany, 199},
		{ones(100) + "+f(1)", impl.ErrMany, 203},
		{ones(100) + "+f(@", impl.ErrSyntax, 202},
		{arguments(199) + "1", impl.ErrSyntax, 401},
		{arguments(199) + "1)", impl.ErrMany, 401},
		{arguments(198) + "1)", impl.OK, 0},
		{arguments(200) + "1)", impl.ErrMany, 402},
		{arguments(200) + "12kg", impl.ErrSyntax, 404},
		{arguments(200) + "01", impl.ErrSyntax, 402},
		{arguments(200) + "1000001m", impl.ErrMany, 402},
		{arguments(200) + "x@", impl.ErrMany, 402},
		{arguments(200) + "x(", impl.ErrSyntax, 404},
		{arguments(200) + "x(1", impl.ErrMany, 404},
		{arguments(200) + "-1", impl.ErrMany, 403},
		{arguments(199) + "-1", impl.ErrMany, 400},
		{arguments(199) + "-(1", impl.ErrSyntax, 403},
		{arguments(199) + "+-1", impl.ErrMany, 401},
		{arguments(199) + "1/1", impl.ErrMany, 402},
		{arguments(199) + "1 - 1", impl.ErrMany, 404},
		{arguments(200) + ")", impl.ErrSyntax, 402},
	} {
		if c.at == -1 {
			c.code, c.at = impl.ErrSyntax, len(c.text)-1
		}
		nodes, code, at := impl.ReadTerm(c.text)
		if code != c.code || at != c.at || (code == impl.OK) != (nodes != nil) {
			t.Errorf("%.12q .. %q of %d bytes: %d at %d, not %d at %d", c.text, c.text[len(c.text)-5:], len(c.text), code, at, c.code, c.at)
		}
	}
}

func TestReadTermLongTexts(t *testing.T) {
	longest := strings.Repeat(" ", impl.MaxText-1) + "1"
	if nodes, code, at := impl.ReadTerm(longest); code != impl.OK || at != 0 || len(nodes) != 1 {
		t.Error("the longest", code, at)
	}
	for _, text := range []string{longest + " ", " " + longest, strings.Repeat("@", impl.MaxText+1), strings.Repeat("(", impl.MaxText+1)} {
		if nodes, code, at := impl.ReadTerm(text); code != impl.ErrLong || at != 0 || nodes != nil {
			t.Errorf("%d bytes: %d at %d", len(text), code, at)
		}
	}
	for _, c := range []struct {
		text     string
		code, at int
	}{
		{strings.Repeat("@", impl.MaxText), impl.ErrSyntax, 0},
		{strings.Repeat("(", impl.MaxText), impl.ErrMany, 20},
		{strings.Repeat("1", impl.MaxText), impl.ErrSyntax, 0},
		{strings.Repeat("a", impl.MaxText), impl.ErrSyntax, 0},
		{strings.Repeat(" ", impl.MaxText), impl.ErrSyntax, impl.MaxText},
		{"a" + strings.Repeat("\t", impl.MaxText-1), impl.OK, 0},
	} {
		if _, code, at := impl.ReadTerm(c.text); code != c.code || at != c.at {
			t.Errorf("%.4q ..: %d at %d", c.text, code, at)
		}
	}
}

var (
	oracleNumber = regexp.MustCompile(`^[0-9]+(\.[0-9]+)?`)
	oracleWord   = regexp.MustCompile("^[a-zA-Z_0-9\u00c0-\u00d6\u00d8-\u00f6\u00f8-\u024f\u0391-\u03c9\u0410-\u044f]+")
)

type oracleFault struct{ code, at int }

// An oracle reads by the grammar as it stands in the document, lexemes as they
// come, and counts by the names of the rules.
type oracle struct {
	text  string
	at    int
	deep  int
	nodes []impl.Node
}

func (o *oracle) fault(code, at int) { panic(oracleFault{code, at}) }

func (o *oracle) skip() { o.at = len(o.text) - len(strings.TrimLeft(o.text[o.at:], " \t\r\n")) }

func (o *oracle) sees(signs string) bool {
	o.skip()
	return o.at < len(o.text) && strings.IndexByte(signs, o.text[o.at]) >= 0
}

func (o *oracle) node(n impl.Node, at int) int {
	if len(o.nodes) >= 200 {
		o.fault(impl.ErrMany, at)
	}
	o.nodes = append(o.nodes, n)
	return len(o.nodes) - 1
}

func (o *oracle) into() int {
	if o.deep++; o.deep > 20 {
		o.fault(impl.ErrMany, o.at)
	}
	o.at++
	return o.at - 1
}

func (o *oracle) expect(signs string) int {
	if !o.sees(signs) {
		o.fault(impl.ErrSyntax, o.at)
	}
	o.at++
	return o.at - 1
}

func (o *oracle) binary(level int) int {
	if level == 2 {
		return o.unary()
	}
	signs := []string{"+-", "*/"}[level]
	left := o.binary(level + 1)
	for o.sees(signs) {
		at := o.expect(signs)
		right := o.binary(level + 1)
		kind := impl.TmAdd + strings.IndexByte("+-*/", o.text[at])
		left = o.node(impl.Node{Kind: kind, Kids: []int{left, right}}, at)
	}
	return left
}

func (o *oracle) unary() int {
	if !o.sees("+-") {
		return o.atom()
	}
	kind := impl.TmPlus + strings.IndexByte("+-", o.text[o.at])
	at := o.into()
	kid := o.unary()
	o.deep--
	return o.node(impl.Node{Kind: kind, Kids: []int{kid}}, at)
}

func (o *oracle) atom() int {
	o.skip()
	rest, at := o.text[o.at:], o.at
	if digits := oracleNumber.FindString(rest); digits != "" {
		return o.number(digits)
	}
	if word := oracleWord.FindString(rest); word != "" {
		return o.word(word)
	}
	if !o.sees("(") {
		o.fault(impl.ErrSyntax, at)
	}
	o.into()
	kid := o.binary(0)
	o.expect(")")
	o.deep--
	return kid
}

func (o *oracle) number(digits string) int {
	at := o.at
	whole, decimals, _ := strings.Cut(digits, ".")
	if len(whole) > 9 || len(decimals) > 6 || len(whole) > 1 && whole[0] == '0' {
		o.fault(impl.ErrSyntax, at)
	}
	o.at += len(digits)
	unit := oracleWord.FindString(o.text[o.at:])
	factor, known := map[string]string{"": "1", "mm": "1", "cm": "10", "m": "1000", "in": "127/5"}[unit]
	if !known {
		o.fault(impl.ErrSyntax, o.at)
	}
	o.at += len(unit)
	value, _ := new(big.Rat).SetString(digits)
	times, _ := new(big.Rat).SetString(factor)
	f, right := rightFrac(value.Mul(value, times))
	n := impl.Node{Kind: impl.TmNum, F: f}
	if unit != "" {
		n.Dim = 1
	}
	last := o.node(n, at)
	if !right {
		o.fault(impl.ErrOver, at)
	}
	return last
}

func rightFrac(value *big.Rat) (impl.Frac, bool) {
	most := big.NewInt(impl.MaxPart)
	if value.Num().CmpAbs(most) > 0 || value.Denom().Cmp(most) > 0 {
		return impl.Frac{}, false
	}
	return impl.Frac{N: int(value.Num().Int64()), D: int(value.Denom().Int64())}, true
}

func (o *oracle) word(word string) int {
	if len(word) > 40 {
		o.fault(impl.ErrSyntax, o.at)
	}
	at := o.at
	o.at += len(word)
	if !o.sees("(") {
		return o.node(impl.Node{Kind: impl.TmName, Name: word}, at)
	}
	o.into()
	kids := []int{o.binary(0)}
	for o.sees(",") {
		o.at++
		kids = append(kids, o.binary(0))
	}
	end := o.expect(")")
	o.deep--
	return o.node(impl.Node{Kind: impl.TmCall, Name: word, Kids: kids}, end)
}

func oracleRead(text string) (nodes []impl.Node, code, at int) {
	defer func() {
		if f, ok := recover().(oracleFault); ok {
			nodes, code, at = nil, f.code, f.at
		}
	}()
	o := &oracle{text: text}
	o.binary(0)
	if o.skip(); o.at < len(text) {
		o.fault(impl.ErrSyntax, o.at)
	}
	return o.nodes, impl.OK, 0
}

func checkReadByOracle(t *testing.T, text string) {
	t.Helper()
	nodes, code, at := impl.ReadTerm(text)
	wantNodes, wantCode, wantAt := oracleRead(text)
	if code != wantCode || at != wantAt || nodesText(nodes) != nodesText(wantNodes) {
		t.Fatalf("%q: %d at %d %s, not %d at %d %s", text, code, at, nodesText(nodes), wantCode, wantAt, nodesText(wantNodes))
	}
}

func TestReadTermByOracleAllShort(t *testing.T) {
	const bytes = "a0.1m+-*/(), @"
	texts := []string{""}
	for range 5 {
		var longer []string
		for _, text := range texts {
			for _, b := range bytes {
				longer = append(longer, text+string(b))
			}
		}
		for _, text := range longer {
			checkReadByOracle(t, text)
		}
		texts = longer
		if len(texts) > 30000 {
			texts = texts[:30000]
		}
	}
}

func TestReadTermByOracleDrawn(t *testing.T) {
	draw := rand.New(rand.NewSource(3))
	pieces := []string{
		"a", "b", "max", "min(", "f (", "(", "(", ")", ")", ")", ",", ", ", "+", "-", "*", "/", " + ", " - ", " * ", "\t", "\r\n", "1", "0", "2.5", "10mm", "0.25in", "3cm", "1000001m",
		"12kg", "007", "1.", "1234567890", "0.1234567", "д", "Ω9", "×", "\xff", "\xc3", "@", strings.Repeat("n", 39), strings.Repeat("(", 9), strings.Repeat("-", 9), strings.Repeat("1+", 60), strings.Repeat("-a*", 30),
	}
	for range 40000 {
		text := ""
		for range 1 + draw.Intn(14) {
			text += pieces[draw.Intn(len(pieces))]
		}
		checkReadByOracle(t, text)
	}
	for range 20000 {
		text, _ := drawnTerm(draw, 3+draw.Intn(4), []string{"a", "b", "дом"})
		cut := draw.Intn(len(text) + 1)
		checkReadByOracle(t, text)
		checkReadByOracle(t, text[:cut])
		checkReadByOracle(t, text[:cut]+pieces[draw.Intn(len(pieces))]+text[cut:])
	}
}
