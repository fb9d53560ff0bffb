package tests

import (
	"fmt"
	"math/big"
	"math/rand"
	"slices"
	"strings"
	"testing"

	"loop.example/g00056/impl"
)

// params of "name: text" lines.
func params(lines ...string) []impl.Param {
	var list []impl.Param
	for _, line := range lines {
		of, text, _ := strings.Cut(line, ": ")
		list = append(list, impl.Param{Name: of, Text: text})
	}
	return list
}

func TestParamOrder(t *testing.T) {
	for _, c := range []struct {
		params []impl.Param
		want   string
	}{
		{nil, ""},
		{params("a: 1"), "a"},
		{params("a: 1", "b: 2", "c: 3"), "a b c"},
		{params("a: b", "b: c", "c: 1"), "c b a"},
		{params("c: 1", "b: c", "a: b"), "c b a"},
		{params("a: d", "b: 1", "c: b", "d: 2"), "b c d a"},
		{params("a: b + c", "b: 1", "c: b", "d: a"), "b c a d"},
		{params("x: z", "y: 1", "z: y", "w: 1"), "y z x w"},
		{params("a: b * b - b", "b: 7"), "b a"},
		{params("a: min(b, f(b))", "f: 1", "b: 2"), "f b a"},
		{params("Min: 1", "minimum: Min"), "Min minimum"},
	} {
		order, code, about := impl.ParamOrder(c.params)
		if code != impl.OK || about != nil || strings.Join(order, " ") != c.want {
			t.Error(c.params, order, code, about)
		}
	}
}

func TestParamOrderFaults(t *testing.T) {
	over := impl.Param{Name: "long", Text: strings.Repeat(" ", impl.MaxText) + "1"}
	for _, c := range []struct {
		params []impl.Param
		code   int
		about  []string
	}{
		{params("9: 1"), impl.ErrBad, []string{"9"}},
		{[]impl.Param{{}}, impl.ErrBad, []string{""}},
		{params("a: 1", "min: 1"), impl.ErrBad, []string{"min"}},
		{params("a: 1", "max: 1", "abs: 1"), impl.ErrBad, []string{"max"}},
		{params("abs: 1"), impl.ErrBad, []string{"abs"}},
		{params("a: 1", "a: 2", "a b: 1"), impl.ErrBad, []string{"a b"}},
		{params("a: @", "b\xff: 1"), impl.ErrBad, []string{"b\xff"}},
		{params(strings.Repeat("a", 40)+": 1", strings.Repeat("a", 41)+": 1"), impl.ErrBad, []string{strings.Repeat("a", 41)}},
		{params(strings.Repeat("a", impl.MaxText+1) + ": 1"), impl.ErrBad, []string{strings.Repeat("a", impl.MaxText+1)}},
		{params("a: 1", "b: 1", "b: 1", "a: 1"), impl.ErrTwice, []string{"b"}},
		{params("a: @", "b: 1", "a: 1"), impl.ErrTwice, []string{"a"}},
		{params("a: 1", "b: (", "c: @"), impl.ErrSyntax, []string{"b"}},
		{params("a: x", "b: "), impl.ErrSyntax, []string{"b"}},
		{params("a: a", "b: 1000001m", "c: @"), impl.ErrOver, []string{"b"}},
		{params("a: 1", "b: "+strings.Repeat("-", 21)+"1"), impl.ErrMany, []string{"b"}},
		{append(params("a: x"), over), impl.ErrLong, []string{"long"}},
		{params("a: b", "b: 1", "c: x * b - y", "d: z"), impl.ErrName, []string{"c", "x"}},
		{params("a: f(b, x) + y"), impl.ErrName, []string{"a", "b"}},
		{params("a: a", "b: min"), impl.ErrName, []string{"b", "min"}},
		{params("a: -(1 + abs)"), impl.ErrName, []string{"a", "abs"}},
		{params("a: A"), impl.ErrName, []string{"a", "A"}},
		{params("a: a"), impl.ErrLoop, []string{"a"}},
		{params("a: b", "b: a"), impl.ErrLoop, []string{"a", "b"}},
		{params("b: a", "a: b"), impl.ErrLoop, []string{"b", "a"}},
		{params("a: b", "b: c", "c: a"), impl.ErrLoop, []string{"a", "b", "c"}},
		{params("a: c", "b: a", "c: b"), impl.ErrLoop, []string{"a", "c", "b"}},
		{params("a: b", "b: c", "c: a", "d: e", "e: d"), impl.ErrLoop, []string{"d", "e"}},
		{params("a: b", "b: c", "c: b + c"), impl.ErrLoop, []string{"c"}},
		{params("a: b", "b: a + b"), impl.ErrLoop, []string{"b"}},
		{params("a: d + c", "b: a", "c: b", "d: b"), impl.ErrLoop, []string{"a", "c", "b"}},
		{params("a: d", "b: c", "c: b", "d: a"), impl.ErrLoop, []string{"a", "d"}},
		{params("u: v", "v: w", "w: v", "x: x / 0"), impl.ErrLoop, []string{"x"}},
		{params("a: c", "b: c", "c: b + a"), impl.ErrLoop, []string{"a", "c"}},
		{params("a: b + c", "b: d", "c: d", "d: a"), impl.ErrLoop, []string{"a", "b", "d"}},
		{params("a: c + b", "d: a", "c: d", "b: d"), impl.ErrLoop, []string{"a", "c", "d"}},
	} {
		order, code, about := impl.ParamOrder(c.params)
		if order != nil || code != c.code || !slices.Equal(about, c.about) {
			t.Errorf("%.100q: %v %d %.100q, not %d %.100q", c.params, order, code, about, c.code, c.about)
		}
		if q, code := impl.Eval(c.params, "@"); q != (impl.Quantity{}) || code != c.code {
			t.Errorf("Eval with %.100q: %v %d", c.params, q, code)
		}
	}
}

// numbered makes parameters p0, p1 .. of one text.
func numbered(count int, text string) []impl.Param {
	list := make([]impl.Param, count)
	for i := range list {
		list[i] = impl.Param{Name: fmt.Sprint("p", i), Text: text}
	}
	return list
}

func TestParamOrderManyParams(t *testing.T) {
	if order, code, _ := impl.ParamOrder(numbered(60, "1")); code != impl.OK || len(order) != 60 || order[59] != "p59" {
		t.Error("60", order, code)
	}
	for _, c := range []struct{ count, code int }{{61, impl.ErrMany}, {impl.MaxList, impl.ErrMany}, {impl.MaxList + 1, impl.ErrLong}} {
		list := numbered(c.count, "@")
		list[0].Name = "min"
		if order, code, about := impl.ParamOrder(list); order != nil || code != c.code || about != nil {
			t.Error(c.count, order, code, about)
		}
		if q, code := impl.Eval(list, "@"); q != (impl.Quantity{}) || code != c.code {
			t.Error("Eval with", c.count, q, code)
		}
	}
	row := numbered(60, "1")
	for i := range 59 {
		row[i].Text = fmt.Sprint("p", i+1, " + p", i+1)
	}
	order, code, _ := impl.ParamOrder(row)
	if code != impl.OK || order[0] != "p59" || order[59] != "p0" {
		t.Error("a row of 60", order, code)
	}
	row[59].Text = "p0"
	if _, code, about := impl.ParamOrder(row); code != impl.ErrLoop || len(about) != 60 || about[0] != "p0" || about[59] != "p59" {
		t.Error("a circle of 60", code, about)
	}
}

// leastRow goes through all rows of a length that are circles, in their order.
func leastRow(names [][]bool, row []int, length int) []int {
	if len(row) == length {
		if names[row[length-1]][row[0]] {
			return slices.Clone(row)
		}
		return nil
	}
	for next := range names {
		if slices.Contains(row, next) || len(row) > 0 && !names[row[len(row)-1]][next] {
			continue
		}
		if found := leastRow(names, append(row, next), length); found != nil {
			return found
		}
	}
	return nil
}

func drawnParams(draw *rand.Rand, count, links int) ([]impl.Param, [][]bool) {
	names := make([][]bool, count)
	list := numbered(count, "1")
	for i := range names {
		names[i] = make([]bool, count)
	}
	for range links {
		from, to := draw.Intn(count), draw.Intn(count)
		names[from][to] = true
		list[from].Text += fmt.Sprint(" + p", to)
	}
	return list, names
}

func TestParamOrderAgainstAllRows(t *testing.T) {
	draw := rand.New(rand.NewSource(11))
	circles := 0
	for range 6000 {
		count := 1 + draw.Intn(7)
		list, names := drawnParams(draw, count, draw.Intn(2*count))
		var want []string
		for length := 1; length <= count && want == nil; length++ {
			for _, i := range leastRow(names, nil, length) {
				want = append(want, list[i].Name)
			}
		}
		order, code, about := impl.ParamOrder(list)
		if !slices.Equal(about, want) || (want == nil) != (code == impl.OK) || want != nil && code != impl.ErrLoop {
			t.Fatal(list, order, code, about, want)
		}
		if want != nil {
			circles++
			continue
		}
		checkOrder(t, list, names, order)
	}
	if circles < 1000 || circles > 5000 {
		t.Error("circles", circles)
	}
}

// Each one in the order names none that comes later, and no earlier one of the
// list could have stood in its place.
func checkOrder(t *testing.T, list []impl.Param, names [][]bool, order []string) {
	t.Helper()
	done := map[int]bool{}
	for _, of := range order {
		for i := range list {
			free := !done[i]
			for part, named := range names[i] {
				free = free && (!named || done[part])
			}
			if free {
				if list[i].Name != of {
					t.Fatal(list, order, of)
				}
				done[i] = true
				break
			}
		}
	}
	if len(done) != len(list) || len(order) != len(list) {
		t.Fatal(list, order)
	}
}

func TestEval(t *testing.T) {
	p := params("w: 2cm", "h: w / 4 + 1mm", "area: w * h", "none: 0", "volume: area * h", "density: 1 / volume")
	q := func(n, d, dim int) impl.Quantity { return impl.Quantity{F: impl.Frac{N: n, D: d}, Dim: dim} }
	for _, c := range []struct {
		text string
		want impl.Quantity
		code int
	}{
		{"w", q(20, 1, 1), impl.OK}, {"h", q(6, 1, 1), impl.OK}, {"area", q(120, 1, 2), impl.OK}, {"volume", q(720, 1, 3), impl.OK}, {"density", q(1, 720, -3), impl.OK},
		{"1", q(1, 1, 0), impl.OK}, {"0mm", q(0, 1, 1), impl.OK}, {"-w", q(-20, 1, 1), impl.OK}, {"+w", q(20, 1, 1), impl.OK}, {"--w", q(20, 1, 1), impl.OK}, {"-0", q(0, 1, 0), impl.OK},
		{"w + h", q(26, 1, 1), impl.OK}, {"w - h", q(14, 1, 1), impl.OK}, {"h - w", q(-14, 1, 1), impl.OK}, {"w / h", q(10, 3, 0), impl.OK}, {"h / -w", q(-3, 10, 0), impl.OK}, {"w / w / w", q(1, 20, -1), impl.OK},
		{"1 / 3 + 1 / 6", q(1, 2, 0), impl.OK}, {"0 / 5mm", q(0, 1, -1), impl.OK}, {"w - h - 1mm", q(13, 1, 1), impl.OK}, {"w / 2 / 5", q(2, 1, 1), impl.OK}, {"2 + 3 * 4", q(14, 1, 0), impl.OK}, {"(2 + 3) * 4", q(20, 1, 0), impl.OK},
		{"min(w)", q(20, 1, 1), impl.OK}, {"max(w, h)", q(20, 1, 1), impl.OK}, {"min(w, h)", q(6, 1, 1), impl.OK}, {"min(3, -2, 1/2)", q(-2, 1, 0), impl.OK}, {"max(1/3, 1/2, 2/5)", q(1, 2, 0), impl.OK}, {"abs(-w)", q(20, 1, 1), impl.OK}, {"abs(w)", q(20, 1, 1), impl.OK}, {"abs(0)", q(0, 1, 0), impl.OK},
		{"min(8, 7, 6, 5, 4, 3, 2, 1)", q(1, 1, 0), impl.OK}, {"max(1, 2, 3, 4, 5, 6, 7, 8)", q(8, 1, 0), impl.OK}, {"min(9, 8, 7, 6, 5, 4, 3, 2, 1)", q(0, 0, 0), impl.ErrName}, {"max(1, 2, 3, 4, 5, 6, 7, 8, 9)", q(0, 0, 0), impl.ErrName},
		{"min(9, 8, 7, 6, 5, 4, 3, 2, 1mm)", q(0, 0, 0), impl.ErrName}, {"abs(1, 2)", q(0, 0, 0), impl.ErrName}, {"abs(1, 2mm)", q(0, 0, 0), impl.ErrName}, {"sin(1)", q(0, 0, 0), impl.ErrName}, {"w(1)", q(0, 0, 0), impl.ErrName}, {"Min(1)", q(0, 0, 0), impl.ErrName},
		{"w + 1", q(0, 0, 0), impl.ErrUnit}, {"1 - w", q(0, 0, 0), impl.ErrUnit}, {"w + 0", q(0, 0, 0), impl.ErrUnit}, {"area + h", q(0, 0, 0), impl.ErrUnit}, {"min(w, 1)", q(0, 0, 0), impl.ErrUnit}, {"max(1, 2, w)", q(0, 0, 0), impl.ErrUnit}, {"min(1, w, 2)", q(0, 0, 0), impl.ErrUnit},
		{"volume * w", q(0, 0, 0), impl.ErrUnit}, {"area * area", q(0, 0, 0), impl.ErrUnit}, {"density / w", q(0, 0, 0), impl.ErrUnit}, {"1 / area / area", q(0, 0, 0), impl.ErrUnit}, {"volume / density", q(0, 0, 0), impl.ErrUnit}, {"density * density", q(0, 0, 0), impl.ErrUnit}, {"volume * density", q(1, 1, 0), impl.OK}, {"density * 2", q(1, 360, -3), impl.OK}, {"2 / volume", q(1, 360, -3), impl.OK}, {"volume * 2", q(1440, 1, 3), impl.OK}, {"area / (1 / w)", q(2400, 1, 3), impl.OK}, {"1 / area * (1 / w)", q(1, 2400, -3), impl.OK}, {"volume * w / w", q(0, 0, 0), impl.ErrUnit},
		{"w / 0", q(0, 0, 0), impl.ErrZero}, {"w / none", q(0, 0, 0), impl.ErrZero}, {"0 / 0", q(0, 0, 0), impl.ErrZero}, {"1 / (w - w)", q(0, 0, 0), impl.ErrZero}, {"volume / (0 / w)", q(0, 0, 0), impl.ErrUnit}, {"density / 0mm", q(0, 0, 0), impl.ErrUnit},
		{"999999999 + 1", q(1000000000, 1, 0), impl.OK}, {"999999999 + 2", q(0, 0, 0), impl.ErrOver}, {"-999999999 - 1", q(-1000000000, 1, 0), impl.OK}, {"-999999999 - 2", q(0, 0, 0), impl.ErrOver}, {"999999999 * 2", q(0, 0, 0), impl.ErrOver}, {"1 / 999999999 / 2", q(0, 0, 0), impl.ErrOver}, {"1 / 999999999", q(1, 999999999, 0), impl.OK}, {"(999999999 + 1) / -(999999999 + 1)", q(-1, 1, 0), impl.OK},
		{"1 / 999999937 + 1 / 999999929", q(0, 0, 0), impl.ErrOver}, {"999999999mm + 2", q(0, 0, 0), impl.ErrUnit}, {"volume * 999999999mm", q(0, 0, 0), impl.ErrUnit}, {"999999999m", q(0, 0, 0), impl.ErrOver},
		{"x", q(0, 0, 0), impl.ErrName}, {"1 / 0 + x", q(0, 0, 0), impl.ErrName}, {"min", q(0, 0, 0), impl.ErrName}, {"x + @", q(0, 0, 0), impl.ErrSyntax}, {"", q(0, 0, 0), impl.ErrSyntax}, {strings.Repeat("(", 21), q(0, 0, 0), impl.ErrMany},
		{"1 / 0 + (1 + 1mm)", q(0, 0, 0), impl.ErrZero}, {"(1 + 1mm) + 1 / 0", q(0, 0, 0), impl.ErrUnit}, {"1mm + 1 / 0", q(0, 0, 0), impl.ErrZero}, {"sin(1 / 0)", q(0, 0, 0), impl.ErrZero}, {"min(1, 1mm, 1 / 0)", q(0, 0, 0), impl.ErrZero}, {"sin(1) + 1 / 0", q(0, 0, 0), impl.ErrName}, {"999999999 * 2 / 0", q(0, 0, 0), impl.ErrOver}, {"1 / 0 * 999999999 * 2", q(0, 0, 0), impl.ErrZero},
	} {
		if got, code := impl.Eval(p, c.text); got != c.want || code != c.code {
			t.Errorf("%q: %v %d, not %v %d", c.text, got, code, c.want, c.code)
		}
	}
}

func TestEvalFaultsInParams(t *testing.T) {
	for _, c := range []struct {
		params []impl.Param
		text   string
		code   int
	}{
		{params("a: 1 / 0"), "1", impl.ErrZero},
		{params("a: 1 + 1mm"), "1", impl.ErrUnit},
		{params("a: f(1)"), "1", impl.ErrName},
		{params("a: 999999999 * 9"), "1", impl.ErrOver},
		{params("a: 1 / 0"), "x", impl.ErrName},
		{params("a: 1 / 0"), "(", impl.ErrSyntax},
		{params("a: 1 / 0", "b: 1 + 1mm"), "1", impl.ErrZero},
		{params("a: 1 / 0 + c", "b: 1 + 1mm", "c: 1"), "1", impl.ErrUnit},
		{params("a: b", "b: a"), "(", impl.ErrLoop},
		{params("a: x"), "(", impl.ErrName},
		{params("a: 1mm"), "a + 1 / 0 * f(1)", impl.ErrZero},
		{nil, strings.Repeat(" ", impl.MaxText) + "1", impl.ErrLong},
		{params("a: a"), strings.Repeat(" ", impl.MaxText) + "1", impl.ErrLong},
		{numbered(61, "1"), strings.Repeat("@", impl.MaxText+1), impl.ErrLong},
		{numbered(impl.MaxList+1, "1"), "1", impl.ErrLong},
	} {
		if got, code := impl.Eval(c.params, c.text); got != (impl.Quantity{}) || code != c.code {
			t.Errorf("%.80q %.40q: %v %d, not %d", c.params, c.text, got, code, c.code)
		}
	}
	if got, code := impl.Eval(nil, strings.Repeat(" ", impl.MaxText-1)+"1"); code != impl.OK || got.F.N != 1 {
		t.Error("the longest text", got, code)
	}
}

type oracleValue struct {
	value *big.Rat
	dim   int
}

// oracleWork works nodes out with exact numbers, from the last node down.
func oracleWork(nodes []impl.Node, at int, known map[string]oracleValue) (oracleValue, int) {
	var parts []oracleValue
	for _, kid := range nodes[at].Kids {
		part, code := oracleWork(nodes, kid, known)
		if code != impl.OK {
			return part, code
		}
		parts = append(parts, part)
	}
	n := nodes[at]
	if n.Kind == impl.TmNum {
		return oracleValue{big.NewRat(int64(n.F.N), int64(n.F.D)), n.Dim}, impl.OK
	}
	if n.Kind == impl.TmName {
		return known[n.Name], impl.OK
	}
	got := oracleValue{new(big.Rat).Set(parts[0].value), parts[0].dim}
	if n.Kind == impl.TmCall {
		return oracleCall(n.Name, parts)
	}
	switch n.Kind {
	case impl.TmMinus:
		got.value.Neg(got.value)
	case impl.TmAdd, impl.TmSub:
		if parts[0].dim != parts[1].dim {
			return got, impl.ErrUnit
		}
		if n.Kind == impl.TmAdd {
			got.value.Add(got.value, parts[1].value)
		} else {
			got.value.Sub(got.value, parts[1].value)
		}
	case impl.TmMul:
		got.dim += parts[1].dim
		got.value.Mul(got.value, parts[1].value)
	case impl.TmDiv:
		got.dim -= parts[1].dim
	}
	if got.dim < -3 || got.dim > 3 {
		return got, impl.ErrUnit
	}
	if n.Kind == impl.TmDiv {
		if parts[1].value.Sign() == 0 {
			return got, impl.ErrZero
		}
		got.value.Quo(got.value, parts[1].value)
	}
	if _, right := rightFrac(got.value); !right {
		return got, impl.ErrOver
	}
	return got, impl.OK
}

func oracleCall(of string, parts []oracleValue) (oracleValue, int) {
	switch {
	case of == "abs" && len(parts) == 1:
		return oracleValue{new(big.Rat).Abs(parts[0].value), parts[0].dim}, impl.OK
	case of == "min" || of == "max":
		if slices.ContainsFunc(parts, func(p oracleValue) bool { return p.dim != parts[0].dim }) {
			return oracleValue{}, impl.ErrUnit
		}
		order := func(a, b oracleValue) int { return a.value.Cmp(b.value) }
		if of == "min" {
			return slices.MinFunc(parts, order), impl.OK
		}
		return slices.MaxFunc(parts, order), impl.OK
	}
	return oracleValue{}, impl.ErrName
}

// drawnKnown answers parameters, each of which names earlier ones, and what they
// come to; nothing if one of them has a fault.
func drawnKnown(draw *rand.Rand) ([]impl.Param, map[string]oracleValue) {
	list := params("a: "+fmt.Sprint(draw.Intn(9)), "b: "+fmt.Sprint(draw.Intn(9))+"mm", "c: ", "d: ")
	known := map[string]oracleValue{}
	for i, p := range list {
		if p.Text == "" {
			list[i].Text, _ = drawnTerm(draw, 1, []string{"a", "b", "c"}[:i])
		}
		nodes, _, _ := oracleRead(list[i].Text)
		value, code := oracleWork(nodes, len(nodes)-1, known)
		if code != impl.OK {
			return nil, nil
		}
		known[p.Name] = value
	}
	return list, known
}

// What is drawn is worked out in three orders of its parameters.
func TestEvalByOracleInAnyOrder(t *testing.T) {
	draw := rand.New(rand.NewSource(13))
	codes := map[int]int{}
	for range 30000 {
		list, known := drawnKnown(draw)
		if list == nil {
			continue
		}
		text, nodes := drawnTerm(draw, 1+draw.Intn(3), []string{"a", "b", "c", "d"})
		value, want := oracleWork(nodes, len(nodes)-1, known)
		codes[want]++
		var q impl.Quantity
		if want == impl.OK {
			f, _ := rightFrac(value.value)
			q = impl.Quantity{F: f, Dim: value.dim}
		}
		for range 3 {
			if got, code := impl.Eval(list, text); got != q || code != want {
				t.Fatalf("%v %q: %v %d, not %v %d", list, text, got, code, q, want)
			}
			draw.Shuffle(len(list), func(i, j int) { list[i], list[j] = list[j], list[i] })
		}
	}
	for _, code := range []int{impl.OK, impl.ErrUnit, impl.ErrZero, impl.ErrName} {
		if codes[code] < 100 {
			t.Error("drawn too seldom:", impl.CodeWord(code), codes)
		}
	}
}

func TestParamCallsChangeNothing(t *testing.T) {
	list := append(params("area: w * h", "w: 2cm", "h: w / 4 + 1mm"), impl.Param{Name: "behind", Text: "@"})
	before := fmt.Sprint(list)
	first, _, _ := impl.ParamOrder(list[:3])
	second, _, _ := impl.ParamOrder(list[:3])
	second[0] = "changed"
	if first[0] != "w" {
		t.Error("two answers share memory")
	}
	one, _ := impl.Eval(list[:3], "area")
	impl.ParamOrder(params("a: a"))
	impl.Eval(nil, "1 / 0")
	if two, code := impl.Eval(list[:3], "area"); one != two || code != impl.OK || fmt.Sprint(list) != before {
		t.Error(one, two, code, list)
	}
}

// termCalls: calls of every function of the terms, right, at an edge and wrong.
func termCalls() []func() string {
	var calls []func() string
	tell := func(call func() string) { calls = append(calls, call) }
	lists := [][]impl.Param{nil, params("a: 1", "b: a + 1"), params("b: a * 2", "a: 3mm"), params("a: b", "b: a"), params("a: x"), params("a: @"), numbered(61, "1"), numbered(60, "p0"), params("a: 1", "b: 1 / 0")}
	for _, list := range lists {
		tell(func() string { return fmt.Sprint(impl.ParamOrder(list)) })
	}
	for _, text := range []string{"", "a", "a + b", "f(a, -b)", "1 / 0", "1mm + 1", "(", "1000001m", strings.Repeat("-", 21), strings.Repeat("1+", 101), strings.Repeat(" ", impl.MaxText+1)} {
		tell(func() string { return fmt.Sprint(impl.ReadTerm(text)) })
		nodes, _, _ := impl.ReadTerm(text)
		tell(func() string { return fmt.Sprint(impl.TermText(nodes)) })
		for _, list := range lists {
			tell(func() string { return fmt.Sprint(impl.Eval(list, text)) })
		}
	}
	return calls
}
