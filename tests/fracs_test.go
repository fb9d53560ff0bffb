package tests

import (
	"math/big"
	"regexp"
	"strconv"
	"strings"
	"testing"

	"loop.example/g00056/impl"
)

func frac(n, d int) impl.Frac { return impl.Frac{N: n, D: d} }

func ratOf(n, d int) *big.Rat {
	return new(big.Rat).SetFrac(big.NewInt(int64(n)), big.NewInt(int64(d)))
}

// rightOf tells, by exact numbers alone, the right fraction of a value and the code.
func rightOf(value *big.Rat) (impl.Frac, int) {
	limit := big.NewInt(impl.MaxPart)
	if value.Num().CmpAbs(limit) > 0 || value.Denom().Cmp(limit) > 0 {
		return impl.Frac{}, impl.ErrOver
	}
	return frac(int(value.Num().Int64()), int(value.Denom().Int64())), impl.OK
}

// wrongFracs: one for each way there is of not being right, and some more.
var wrongFracs = []impl.Frac{
	{}, {N: 1}, {N: -1}, {N: impl.MaxPart}, // D is 0
	{N: 1, D: -1}, {N: -1, D: -2}, {N: 0, D: -1}, {N: 1, D: least}, {N: 3, D: -impl.MaxPart}, // D is below 1
	{N: 1, D: impl.MaxPart + 1}, {N: 0, D: impl.MaxPart + 1}, {N: 1, D: greatest}, // D is too great
	{N: impl.MaxPart + 1, D: 1}, {N: greatest, D: 1}, {N: greatest, D: 2}, // N is too great
	{N: -impl.MaxPart - 1, D: 1}, {N: least, D: 1}, {N: least + 1, D: 2}, // N is too small
	{N: 2, D: 4}, {N: -2, D: 4}, {N: 2, D: 2}, {N: 6, D: 9}, {N: impl.MaxPart, D: impl.MaxPart}, {N: -impl.MaxPart, D: 2}, // a common divisor
	{N: 0, D: 2}, {N: 0, D: 7}, {N: 0, D: impl.MaxPart}, // 0 is {0, 1} alone
	{N: least, D: least}, {N: greatest, D: greatest}, {N: least, D: 2}, {N: 2 * impl.MaxPart, D: 2},
}

func rightFracs() []impl.Frac {
	list := []impl.Frac{
		{N: 0, D: 1}, {N: impl.MaxPart, D: 1}, {N: -impl.MaxPart, D: 1}, {N: impl.MaxPart - 1, D: 1}, {N: 1, D: impl.MaxPart}, {N: -1, D: impl.MaxPart},
		{N: impl.MaxPart, D: impl.MaxPart - 1}, {N: -impl.MaxPart, D: impl.MaxPart - 1}, {N: impl.MaxPart - 1, D: impl.MaxPart}, {N: 1 - impl.MaxPart, D: impl.MaxPart},
		{N: 1, D: impl.MaxPart - 1}, {N: 999999937, D: 2}, {N: 2, D: 999999937}, {N: 1, D: 500000000}, {N: 500000000, D: 1}, {N: 1, D: 100000}, {N: 100000, D: 1},
		{N: 1, D: 31623}, {N: 31622, D: 1}, {N: 65536, D: 390625}, {N: 390625, D: 65536}, {N: 127, D: 5}, {N: 999999999, D: 2}, {N: -999999999, D: 2}, {N: -999999997, D: 2},
	}
	for n := -9; n <= 9; n++ {
		for d := 1; d <= 6; d++ {
			if f, code := rightOf(ratOf(n, d)); code == impl.OK && f == frac(n, d) {
				list = append(list, f)
			}
		}
	}
	seed := uint64(1) // a fixed row of numbers, the same in each run
	for range 60 {
		seed = seed*6364136223846793005 + 1442695040888963407
		n, d := int(seed>>33%2000001)-1000000, int(seed>>20%99991)+1
		f, _ := rightOf(ratOf(n*(1+int(seed>>60)*60), d))
		if f.D != 0 {
			list = append(list, f)
		}
	}
	return list
}

func TestFracOK(t *testing.T) {
	for _, f := range rightFracs() {
		if !impl.FracOK(f) {
			t.Error("FracOK is false of", f)
		}
	}
	for _, f := range wrongFracs {
		if impl.FracOK(f) {
			t.Error("FracOK is true of", f)
		}
	}
	for n := -40; n <= 40; n++ {
		for d := -5; d <= 40; d++ {
			want := d >= 1
			for common := 2; common <= 40; common++ {
				want = want && (n%common != 0 || d%common != 0)
			}
			if impl.FracOK(frac(n, d)) != want {
				t.Error("FracOK of", n, d, "is not", want)
			}
		}
	}
}

func TestFracOf(t *testing.T) {
	numbers := []int{
		least, least + 1, least + 2, least / 2, least / 1000000000, -impl.MaxPart * impl.MaxPart, -2 * impl.MaxPart, -impl.MaxPart - 1, -impl.MaxPart, 1 - impl.MaxPart,
		impl.MaxPart - 1, impl.MaxPart, impl.MaxPart + 1, 2 * impl.MaxPart, 3 * impl.MaxPart, impl.MaxPart * impl.MaxPart, 1 << 62, greatest / 7, greatest - 1, greatest,
	}
	for n := -12; n <= 12; n++ {
		numbers = append(numbers, n)
	}
	for _, n := range numbers {
		for _, d := range numbers {
			want, wantCode := impl.Frac{}, impl.ErrZero
			if d != 0 {
				want, wantCode = rightOf(ratOf(n, d))
			}
			if f, code := impl.FracOf(n, d); f != want || code != wantCode {
				t.Errorf("FracOf(%d, %d): %v %d, not %v %d", n, d, f, code, want, wantCode)
			}
		}
	}
}

func TestFracOfTold(t *testing.T) {
	for _, c := range []struct {
		n, d int
		want impl.Frac
		code int
	}{
		{6, 4, frac(3, 2), impl.OK}, {6, -4, frac(-3, 2), impl.OK}, {-6, -4, frac(3, 2), impl.OK}, {0, 9, frac(0, 1), impl.OK}, {0, -9, frac(0, 1), impl.OK},
		{0, least, frac(0, 1), impl.OK}, {0, greatest, frac(0, 1), impl.OK}, {least, least, frac(1, 1), impl.OK}, {least, 1 << 62, frac(-2, 1), impl.OK},
		{1 << 62, least, frac(-1, 2), impl.OK}, {greatest, -greatest, frac(-1, 1), impl.OK}, {least, -1, frac(0, 0), impl.ErrOver}, {1, least, frac(0, 0), impl.ErrOver},
		{greatest, least, frac(0, 0), impl.ErrOver}, {2 * impl.MaxPart, 2, frac(impl.MaxPart, 1), impl.OK}, {2, 2 * impl.MaxPart, frac(1, impl.MaxPart), impl.OK},
		{impl.MaxPart + 1, 1, frac(0, 0), impl.ErrOver}, {1, impl.MaxPart + 1, frac(0, 0), impl.ErrOver}, {-impl.MaxPart, 1, frac(-impl.MaxPart, 1), impl.OK},
		{0, 0, frac(0, 0), impl.ErrZero}, {1, 0, frac(0, 0), impl.ErrZero}, {least, 0, frac(0, 0), impl.ErrZero},
	} {
		if f, code := impl.FracOf(c.n, c.d); f != c.want || code != c.code {
			t.Errorf("FracOf(%d, %d): %v %d, not %v %d", c.n, c.d, f, code, c.want, c.code)
		}
	}
}

func TestFracsAddMultiplyCompare(t *testing.T) {
	list := rightFracs()
	for _, a := range list {
		for _, b := range list {
			x, y := ratOf(a.N, a.D), ratOf(b.N, b.D)
			want, wantCode := rightOf(new(big.Rat).Add(x, y))
			if f, code := impl.FracAdd(a, b); f != want || code != wantCode {
				t.Errorf("FracAdd(%v, %v): %v %d, not %v %d", a, b, f, code, want, wantCode)
			}
			want, wantCode = rightOf(new(big.Rat).Mul(x, y))
			if f, code := impl.FracMul(a, b); f != want || code != wantCode {
				t.Errorf("FracMul(%v, %v): %v %d, not %v %d", a, b, f, code, want, wantCode)
			}
			if less, code := impl.FracLess(a, b); less != (x.Cmp(y) < 0) || code != impl.OK {
				t.Errorf("FracLess(%v, %v): %v %d", a, b, less, code)
			}
		}
	}
}

// Sums and products that are right only once they are reduced, and those next to them that are not right at all.
func TestFracsReducedAheadOfTooGreat(t *testing.T) {
	whole := impl.MaxPart
	for _, c := range []struct {
		a, b, sum impl.Frac
		code      int
	}{
		{frac(1, whole), frac(1, whole), frac(1, whole/2), impl.OK},
		{frac(whole-1, whole), frac(1, whole), frac(1, 1), impl.OK},
		{frac(whole, whole-1), frac(-whole, whole-1), frac(0, 1), impl.OK},
		{frac(whole, 1), frac(-1, 1), frac(whole-1, 1), impl.OK},
		{frac(whole, 1), frac(1, 1), impl.Frac{}, impl.ErrOver},
		{frac(-whole, 1), frac(-1, 1), impl.Frac{}, impl.ErrOver},
		{frac(whole, 1), frac(1, 2), impl.Frac{}, impl.ErrOver},
		{frac(1, whole), frac(1, whole-1), impl.Frac{}, impl.ErrOver},
	} {
		if f, code := impl.FracAdd(c.a, c.b); f != c.sum || code != c.code {
			t.Errorf("FracAdd(%v, %v): %v %d", c.a, c.b, f, code)
		}
	}
	for _, c := range []struct {
		a, b, product impl.Frac
		code          int
	}{
		{frac(whole, 1), frac(1, whole), frac(1, 1), impl.OK},
		{frac(-whole, whole-1), frac(whole-1, whole), frac(-1, 1), impl.OK},
		{frac(whole, 3), frac(3, 2), frac(whole/2, 1), impl.OK},
		{frac(whole, 1), frac(0, 1), frac(0, 1), impl.OK},
		{frac(whole/2, 1), frac(-2, 1), frac(-whole, 1), impl.OK},
		{frac(whole, 1), frac(whole, 1), impl.Frac{}, impl.ErrOver},
		{frac(1, whole), frac(1, 2), impl.Frac{}, impl.ErrOver},
		{frac(1, 100000), frac(1, 10000), frac(1, whole), impl.OK},
		{frac(1, 100000), frac(1, 10001), impl.Frac{}, impl.ErrOver},
	} {
		if f, code := impl.FracMul(c.a, c.b); f != c.product || code != c.code {
			t.Errorf("FracMul(%v, %v): %v %d", c.a, c.b, f, code)
		}
	}
}

func TestWrongFracsAreBad(t *testing.T) {
	for _, wrong := range wrongFracs {
		for _, other := range append(rightFracs()[:30], wrongFracs...) {
			for _, pair := range [][2]impl.Frac{{wrong, other}, {other, wrong}} {
				if f, code := impl.FracAdd(pair[0], pair[1]); f != (impl.Frac{}) || code != impl.ErrBad {
					t.Errorf("FracAdd of %v: %v %d", pair, f, code)
				}
				if f, code := impl.FracMul(pair[0], pair[1]); f != (impl.Frac{}) || code != impl.ErrBad {
					t.Errorf("FracMul of %v: %v %d", pair, f, code)
				}
				if less, code := impl.FracLess(pair[0], pair[1]); less || code != impl.ErrBad {
					t.Errorf("FracLess of %v: %v %d", pair, less, code)
				}
			}
		}
		if text, code := impl.FracText(wrong); text != "" || code != impl.ErrBad {
			t.Errorf("FracText(%v): %q %d", wrong, text, code)
		}
		for _, mode := range []int{impl.RdDown, impl.RdUp, impl.RdEven, 0, 4} { // a wrong fraction is found ahead of a wrong mode
			if n, code := impl.FracRound(wrong, mode); n != 0 || code != impl.ErrBad {
				t.Errorf("FracRound(%v, %d): %d %d", wrong, mode, n, code)
			}
		}
	}
}

func TestFracsToldAndRead(t *testing.T) {
	for _, f := range rightFracs() {
		want := strconv.Itoa(f.N)
		if f.D > 1 {
			want += "/" + strconv.Itoa(f.D)
		}
		text, code := impl.FracText(f)
		if text != want || code != impl.OK {
			t.Errorf("FracText(%v): %q %d", f, text, code)
		}
		if back, code := impl.ReadFrac(want); back != f || code != impl.OK {
			t.Errorf("ReadFrac(%q): %v %d", want, back, code)
		}
	}
	for text, f := range map[string]impl.Frac{"0": frac(0, 1), "-1": frac(-1, 1), "1000000000": frac(impl.MaxPart, 1), "-1000000000/999999999": frac(-impl.MaxPart, 999999999), "1/1000000000": frac(1, impl.MaxPart)} {
		if back, code := impl.ReadFrac(text); back != f || code != impl.OK {
			t.Errorf("ReadFrac(%q): %v %d", text, back, code)
		}
	}
}

func TestTextsThatAreNoFracs(t *testing.T) {
	for _, text := range []string{
		"", " ", "-", "+", "/", "a", "1a", "a1", "1 ", " 1", "1\n", "1\x00", "+1", "--1", "-0", "00", "01", "-01", "0x1", "1_0", "1.5", "1e3", "٣", "½",
		"1/", "/2", "1/0", "0/1", "0/2", "0/0", "-0/2", "5/1", "-5/1", "1/-2", "-1/-2", "1/+2", "+1/2", "1/02", "01/2", "1 /2", "1/ 2", "1/2 ", "1//2", "1/2/3", "1/2/", "2/4", "6/9", "-2/2",
		"1000000001", "-1000000001", "1/1000000001", "1000000001/2", "2000000000/2", "2/2000000000",
		"9223372036854775807", "-9223372036854775808", "9223372036854775808", "18446744073709551617", "1/18446744073709551618", "-9223372036854775808/-9223372036854775808",
		"99999999999999999999999999999999", strings.Repeat("0", 70) + "1", strings.Repeat("1", impl.MaxText), strings.Repeat("/", impl.MaxText), "1/" + strings.Repeat(" ", impl.MaxText-3) + "2",
	} {
		if f, code := impl.ReadFrac(text); f != (impl.Frac{}) || code != impl.ErrSyntax {
			t.Errorf("ReadFrac of %d bytes, %.40q: %v %d", len(text), text, f, code)
		}
	}
	for _, text := range []string{strings.Repeat("1", impl.MaxText+1), strings.Repeat("\xff", impl.MaxText+1), "1/2" + strings.Repeat(" ", impl.MaxText)} {
		if f, code := impl.ReadFrac(text); f != (impl.Frac{}) || code != impl.ErrLong {
			t.Errorf("ReadFrac of %d bytes: %v %d", len(text), f, code)
		}
	}
}

func TestEachShortTextReadAsFrac(t *testing.T) {
	grammar := regexp.MustCompile(`^(0|-?[1-9][0-9]*)(/([1-9][0-9]*))?$`)
	check := func(text string) {
		want, wantCode := impl.Frac{}, impl.ErrSyntax
		if m := grammar.FindStringSubmatch(text); m != nil {
			n, _ := strconv.Atoi(m[1])
			d := 1
			if m[2] != "" {
				d, _ = strconv.Atoi(m[3])
			}
			if f, _ := rightOf(ratOf(n, d)); f == frac(n, d) && (d > 1 || m[2] == "") {
				want, wantCode = f, impl.OK
			}
		}
		if f, code := impl.ReadFrac(text); f != want || code != wantCode {
			t.Errorf("ReadFrac(%q): %v %d, not %v %d", text, f, code, want, wantCode)
		}
	}
	texts := []string{""}
	for len(texts) > 0 {
		text := texts[0]
		texts = texts[1:]
		check(text)
		if len(text) < 5 {
			for _, sign := range []byte("0126-/+ ") {
				texts = append(texts, text+string(sign))
			}
		}
	}
}

func TestFracRound(t *testing.T) {
	for _, f := range rightFracs() {
		down := new(big.Int).Div(big.NewInt(int64(f.N)), big.NewInt(int64(f.D))).Int64() // rounds down where the divisor is above 0
		up := down
		if f.D > 1 {
			up++
		}
		even := down
		if below, above := int64(f.N)-down*int64(f.D), up*int64(f.D)-int64(f.N); above < below || above == below && up%2 == 0 {
			even = up
		}
		for mode, want := range map[int]int64{impl.RdDown: down, impl.RdUp: up, impl.RdEven: even} {
			if n, code := impl.FracRound(f, mode); int64(n) != want || code != impl.OK {
				t.Errorf("FracRound(%v, %d): %d %d, not %d", f, mode, n, code, want)
			}
		}
	}
}

func TestFracRoundTold(t *testing.T) {
	if impl.RdDown != 1 || impl.RdUp != 2 || impl.RdEven != 3 || impl.MaxPart != 1000000000 {
		t.Error("constants of fractions")
	}
	for _, c := range []struct {
		f              impl.Frac
		down, up, even int
	}{
		{frac(0, 1), 0, 0, 0}, {frac(4, 1), 4, 4, 4}, {frac(-4, 1), -4, -4, -4}, {frac(1, 2), 0, 1, 0}, {frac(-1, 2), -1, 0, 0}, {frac(3, 2), 1, 2, 2}, {frac(-3, 2), -2, -1, -2},
		{frac(5, 2), 2, 3, 2}, {frac(-5, 2), -3, -2, -2}, {frac(7, 2), 3, 4, 4}, {frac(-7, 2), -4, -3, -4}, {frac(1, 3), 0, 1, 0}, {frac(2, 3), 0, 1, 1}, {frac(-1, 3), -1, 0, 0}, {frac(-2, 3), -1, 0, -1},
		{frac(999999999, 2), 499999999, 500000000, 500000000}, {frac(-999999999, 2), -500000000, -499999999, -500000000}, {frac(-999999997, 2), -499999999, -499999998, -499999998},
		{frac(1, 1000000000), 0, 1, 0}, {frac(-1, 1000000000), -1, 0, 0}, {frac(-1000000000, 999999999), -2, -1, -1}, {frac(1000000000, 1), 1000000000, 1000000000, 1000000000}, {frac(-1000000000, 1), -1000000000, -1000000000, -1000000000},
	} {
		for mode, want := range map[int]int{impl.RdDown: c.down, impl.RdUp: c.up, impl.RdEven: c.even} {
			if n, code := impl.FracRound(c.f, mode); n != want || code != impl.OK {
				t.Errorf("FracRound(%v, %d): %d %d, not %d", c.f, mode, n, code, want)
			}
		}
	}
	for _, mode := range []int{0, 4, -1, -2, 5, 257, least, greatest} {
		if n, code := impl.FracRound(frac(7, 2), mode); n != 0 || code != impl.ErrKind {
			t.Errorf("FracRound of the mode %d: %d %d", mode, n, code)
		}
	}
}
