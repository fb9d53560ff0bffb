package tests

import (
	"fmt"
	"math/big"
	"slices"
	"strings"
	"testing"

	"loop.example/g00056/impl"
)

func link(of string, sign, size, plus, minus int) impl.Link {
	return impl.Link{Name: of, Sign: sign, Size: size, Plus: plus, Minus: minus}
}

// links are named by their numbers; each is of a sign, a size, a plus and a
// minus.
func links(rows ...[4]int) []impl.Link {
	var list []impl.Link
	for i, r := range rows {
		list = append(list, link(fmt.Sprint("l", i), r[0], r[1], r[2], r[3]))
	}
	return list
}

// alikeLinks differ by their names alone.
func alikeLinks(count int, row [4]int) []impl.Link {
	return links(slices.Repeat([][4]int{row}, count)...)
}

func bigSum(numbers ...int) *big.Int {
	sum := new(big.Int)
	for _, n := range numbers {
		sum.Add(sum, big.NewInt(int64(n)))
	}
	return sum
}

// exactLinksCode goes through the document's sentence on links.
func exactLinksCode(list []impl.Link) int {
	if len(list) > impl.MaxList {
		return impl.ErrLong
	}
	if len(list) < 1 || len(list) > impl.MaxLinks {
		return impl.ErrBad
	}
	for i, l := range list {
		switch {
		case !impl.NameOK(l.Name),
			l.Sign != 1 && l.Sign != -1,
			l.Size < -impl.MaxAt || l.Size > impl.MaxAt,
			l.Plus < 0 || l.Plus > impl.MaxAt,
			l.Minus < 0 || l.Minus > impl.MaxAt:
			return impl.ErrBad
		}
		for _, other := range list[:i] {
			if other.Name == l.Name {
				return impl.ErrBad
			}
		}
	}
	return impl.OK
}

// sizesAt are those of a corner: -1 for a least size, 1 for a greatest one.
func sizesAt(list []impl.Link, corner []int) []int {
	var sizes []int
	for i, l := range list {
		switch corner[i] {
		case -1:
			sizes = append(sizes, l.Size-l.Minus)
		case 1:
			sizes = append(sizes, l.Size+l.Plus)
		default:
			sizes = append(sizes, l.Size)
		}
	}
	return sizes
}

func signedSum(list []impl.Link, sizes []int) int {
	sum := 0
	for i, l := range list {
		sum += l.Sign * sizes[i]
	}
	return sum
}

// exactChain: each link alone is least or most at one of its two ends.
func exactChain(list []impl.Link) impl.Chain {
	var c impl.Chain
	for _, l := range list {
		low, high := l.Size-l.Minus, l.Size+l.Plus
		if l.Sign == -1 {
			low, high = -high, -low
		}
		c.Least += low
		c.Most += high
		c.Spread2 += (high - low) * (high - low)
	}
	c.Middle2 = c.Least + c.Most
	return c
}

func exactLikely(c impl.Chain, low, high int) bool {
	below := bigSum(c.Middle2)
	below.Sub(below, bigSum(low, low))
	above := bigSum(high, high)
	above.Sub(above, bigSum(c.Middle2))
	for _, room := range []*big.Int{below, above} {
		if room.Sign() < 0 || new(big.Int).Mul(room, room).Cmp(bigSum(c.Spread2)) < 0 {
			return false
		}
	}
	return true
}

// checkCorner: the corner is one of the links, with 0 just where nothing can
// differ, and its sum is the one that is out of bounds.
func checkCorner(t *testing.T, list []impl.Link, low, high int, c impl.Chain, corner []int) {
	t.Helper()
	if len(corner) != len(list) {
		t.Fatal("a corner of other links", list, low, high, corner)
	}
	for i, l := range list {
		if (corner[i] == 0) != (l.Plus == 0 && l.Minus == 0) || corner[i] < -1 || corner[i] > 1 {
			t.Fatal("no side of a link", list, low, high, corner)
		}
	}
	want := c.Most
	if c.Least < low {
		want = c.Least
	}
	sum := signedSum(list, sizesAt(list, corner))
	if sum != want || low <= sum && sum <= high {
		t.Fatal("the corner comes to", sum, "not", want, list, low, high, corner)
	}
}

// checkBounds holds ChainSafe and ChainLikely against what the links come to.
func checkBounds(t *testing.T, list []impl.Link, low, high int) {
	t.Helper()
	c := exactChain(list)
	safe, corner, code := impl.ChainSafe(list, low, high)
	if want := low <= c.Least && c.Least <= high && low <= c.Most && c.Most <= high; safe != want || code != impl.OK {
		t.Fatal("ChainSafe", list, low, high, safe, corner, code)
	}
	if safe && len(corner) != 0 {
		t.Fatal("a corner of a safe chain", list, low, high, corner)
	}
	if !safe {
		checkCorner(t, list, low, high, c, corner)
	}
	if likely, code := impl.ChainLikely(list, low, high); likely != exactLikely(c, low, high) || code != impl.OK {
		t.Fatal("ChainLikely", list, low, high, likely, code)
	}
}

func checkChain(t *testing.T, list []impl.Link) impl.Chain {
	t.Helper()
	c, code := impl.ChainOf(list)
	if code != impl.OK || c != exactChain(list) {
		t.Fatal("ChainOf", list, c, code, "not", exactChain(list))
	}
	for _, low := range []int{least, least + 1, c.Least - 1, c.Least, c.Least + 1, c.Most, greatest} {
		for _, high := range []int{least, c.Least, c.Most - 1, c.Most, c.Most + 1, greatest - 1, greatest} {
			checkBounds(t, list, low, high)
		}
	}
	return c
}

func TestChainLimits(t *testing.T) {
	if impl.MaxLinks != 40 {
		t.Error("limits", impl.MaxLinks)
	}
}

func TestChainOfTold(t *testing.T) {
	const m = impl.MaxAt
	for _, c := range []struct {
		list                         []impl.Link
		least, most, middle2, spread int
	}{
		{links([4]int{1, 0, 0, 0}), 0, 0, 0, 0},
		{links([4]int{1, 7, 0, 0}), 7, 7, 14, 0},
		{links([4]int{-1, 7, 0, 0}), -7, -7, -14, 0},
		{links([4]int{1, 30, 2, 1}), 29, 32, 61, 9},
		{links([4]int{-1, 30, 2, 1}), -32, -29, -61, 9},
		{links([4]int{1, -30, 2, 1}), -31, -28, -59, 9},
		{links([4]int{-1, -30, 2, 1}), 28, 31, 59, 9},
		{links([4]int{1, 10, 3, 0}), 10, 13, 23, 9},
		{links([4]int{1, 10, 0, 3}), 7, 10, 17, 9},
		{links([4]int{-1, 10, 3, 0}), -13, -10, -23, 9},
		{links([4]int{-1, 10, 0, 3}), -10, -7, -17, 9},
		{links([4]int{1, 50, 1, 1}, [4]int{-1, 20, 0, 2}, [4]int{-1, 29, 3, 0}), -3, 4, 1, 4 + 4 + 9},
		{links([4]int{1, 2, 1, 5}, [4]int{1, -2, 5, 1}), -6, 6, 0, 72},
		{links([4]int{1, m, m, m}), 0, 2 * m, 2 * m, 4 * m * m},
		{links([4]int{-1, -m, m, m}), 0, 2 * m, 2 * m, 4 * m * m},
		{alikeLinks(impl.MaxLinks, [4]int{1, m, m, 0}), 40 * m, 80 * m, 120 * m, 40 * m * m},
		{alikeLinks(impl.MaxLinks, [4]int{-1, m, m, 0}), -80 * m, -40 * m, -120 * m, 40 * m * m},
		{alikeLinks(impl.MaxLinks, [4]int{1, -m, m, m}), -80 * m, 0, -80 * m, 160 * m * m},
	} {
		got, code := impl.ChainOf(c.list)
		if want := (impl.Chain{Least: c.least, Most: c.most, Middle2: c.middle2, Spread2: c.spread}); got != want || code != impl.OK {
			t.Errorf("ChainOf %v: %v %d, not %v", short(c.list), got, code, want)
		}
		checkChain(t, c.list)
	}
}

// eachLinks: all lists of that many of the rows.
func eachLinks(rows [][4]int, count int, do func([]impl.Link)) {
	chosen := make([][4]int, count)
	var choose func(int)
	choose = func(at int) {
		if at == count {
			do(links(chosen...))
			return
		}
		for _, r := range rows {
			chosen[at] = r
			choose(at + 1)
		}
	}
	choose(0)
}

func nearLinks(sizes ...int) [][4]int {
	var rows [][4]int
	for _, sign := range []int{1, -1} {
		for _, size := range sizes {
			for plus := range 3 {
				for minus := range 3 {
					rows = append(rows, [4]int{sign, size, plus, minus})
				}
			}
		}
	}
	return rows
}

// eachSum: the sums of all sizes that lie within the tolerances.
func eachSum(list []impl.Link, do func(int)) {
	if len(list) == 0 {
		do(0)
		return
	}
	l := list[0]
	eachSum(list[1:], func(rest int) {
		for size := l.Size - l.Minus; size <= l.Size+l.Plus; size++ {
			do(l.Sign*size + rest)
		}
	})
}

func TestNothingWithinTheTolerancesIsBeyondTheChain(t *testing.T) {
	for count, sizes := range map[int][]int{1: {-9, -1, 0, 1, 9}, 2: {-3, 0, 2}, 3: {4}} {
		eachLinks(nearLinks(sizes...), count, func(list []impl.Link) {
			c := checkChain(t, list)
			low, high := greatest, least
			eachSum(list, func(sum int) { low, high = min(low, sum), max(high, sum) })
			if c.Least != low || c.Most != high {
				t.Fatal("ChainOf", list, c, "but sums from", low, "to", high)
			}
		})
	}
}

func TestEveryCornerIsWithinTheChain(t *testing.T) {
	list := links([4]int{1, 100, 7, 1}, [4]int{-1, 40, 0, 9}, [4]int{-1, -25, 4, 0}, [4]int{1, -60, 3, 3}, [4]int{1, 0, 11, 2}, [4]int{-1, 5, 1, 6}, [4]int{1, 8, 0, 0})
	c := checkChain(t, list)
	low, high := greatest, least
	for corner := range 1 << len(list) {
		sides := make([]int, len(list))
		for i := range sides {
			sides[i] = 2*(corner>>i&1) - 1
		}
		sum := signedSum(list, sizesAt(list, sides))
		low, high = min(low, sum), max(high, sum)
	}
	if low != c.Least || high != c.Most {
		t.Error("ChainOf", c, "but corners from", low, "to", high)
	}
}

// checkSafe: no corner wanted means that it is safe.
func checkSafe(t *testing.T, list []impl.Link, low, high int, want ...int) {
	t.Helper()
	safe, corner, code := impl.ChainSafe(list, low, high)
	if safe != (len(want) == 0) || !slices.Equal(corner, want) || code != impl.OK {
		t.Errorf("ChainSafe %v from %d to %d: %v %v %d, not %v", list, low, high, safe, corner, code, want)
	}
	checkBounds(t, list, low, high)
}

func TestChainSafeTold(t *testing.T) {
	// From 20 - 1 - (5 + 4) - (-3 + 0) - 8 to 20 + 2 - (5 - 0) - (-3 - 6) - 8.
	list := links([4]int{1, 20, 2, 1}, [4]int{-1, 5, 4, 0}, [4]int{-1, -3, 0, 6}, [4]int{-1, 8, 0, 0})
	lowCorner, highCorner := []int{-1, 1, 1, 0}, []int{1, -1, -1, 0}
	checkSafe(t, list, 5, 18)
	checkSafe(t, list, 4, 19)
	checkSafe(t, list, least, greatest)
	checkSafe(t, list, 6, 18, lowCorner...)
	checkSafe(t, list, 5, 17, highCorner...)
	checkSafe(t, list, 6, 17, lowCorner...)
	checkSafe(t, list, 19, 30, lowCorner...)
	checkSafe(t, list, 0, 4, highCorner...)
	checkSafe(t, list, 12, 11, lowCorner...)
	checkSafe(t, list, 18, 5, lowCorner...)
	checkSafe(t, list, 5, 4, highCorner...)
	checkSafe(t, list, 4, 3, highCorner...)
	checkSafe(t, list, greatest, greatest, lowCorner...)
	checkSafe(t, list, greatest, least, lowCorner...)
	checkSafe(t, list, least, least, highCorner...)

	for _, sign := range []int{1, -1} {
		one := links([4]int{sign, 6, 0, 0})
		checkSafe(t, one, 6*sign, 6*sign)
		checkSafe(t, one, 6*sign+1, 99, 0)
		checkSafe(t, one, -99, 6*sign-1, 0)
	}
	checkSafe(t, links([4]int{1, 6, 3, 0}), 7, 9, -1)
	checkSafe(t, links([4]int{1, 6, 3, 0}), 6, 8, 1)
	checkSafe(t, links([4]int{-1, 6, 3, 0}), -8, -6, 1)
	checkSafe(t, links([4]int{-1, 6, 3, 0}), -9, -7, -1)
	checkSafe(t, links([4]int{1, 6, 0, 3}), 4, 6, -1)
	checkSafe(t, links([4]int{1, 6, 0, 3}), 3, 5, 1)
	checkSafe(t, links([4]int{-1, 6, 0, 3}), -5, -3, 1)
	checkSafe(t, links([4]int{-1, 6, 0, 3}), -6, -4, -1)
}

func TestChainSafeByAllBounds(t *testing.T) {
	for _, list := range [][]impl.Link{
		links([4]int{1, 3, 1, 1}), links([4]int{-1, 3, 0, 2}), links([4]int{1, 0, 0, 0}),
		links([4]int{1, 3, 1, 0}, [4]int{-1, 2, 0, 2}), links([4]int{-1, 1, 2, 0}, [4]int{1, 5, 0, 0}, [4]int{-1, -4, 1, 1}),
	} {
		for low := -20; low <= 20; low++ {
			for high := -20; high <= 20; high++ {
				checkBounds(t, list, low, high)
			}
		}
	}
}

func checkLikely(t *testing.T, list []impl.Link, low, high int, want bool) {
	t.Helper()
	if likely, code := impl.ChainLikely(list, low, high); likely != want || code != impl.OK {
		t.Errorf("ChainLikely %v from %d to %d: %v %d", short(list), low, high, likely, code)
	}
	checkBounds(t, list, low, high)
}

func TestChainLikelyTold(t *testing.T) {
	// Middle2 is 4 and Spread2 is 36: 4 - 2 low and 2 high - 4 are to be 6 at least.
	list := links([4]int{1, 2, 3, 3})
	for _, c := range []struct {
		low, high int
		want      bool
	}{
		{-1, 5, true}, {-2, 6, true}, {0, 5, false}, {-1, 4, false}, {0, 4, false}, {least, greatest, true}, {-1, greatest, true}, {least, 5, true},
		{least, 4, false}, {0, greatest, false}, {greatest, greatest, false}, {least, least, false}, {greatest, least, false},
		{6, 6, false}, {-4, -4, false}, {6, -4, false}, {10, 20, false}, {-20, -10, false}, {-1, -1, false}, {5, 5, false}, // squares alone would do
	} {
		checkLikely(t, list, c.low, c.high, c.want)
	}
	// Middle2 is 1 and Spread2 is 25, of which no link has 5.
	odd := links([4]int{1, 5, 2, 1}, [4]int{-1, 5, 2, 2})
	checkLikely(t, odd, -2, 3, true)
	checkLikely(t, odd, -1, 3, false)
	checkLikely(t, odd, -2, 2, false)
	none := links([4]int{1, 5, 0, 0}, [4]int{-1, 3, 0, 0})
	checkLikely(t, none, 2, 2, true)
	checkLikely(t, none, 3, 3, false)
	checkLikely(t, none, 1, 1, false)
	checkLikely(t, none, 3, 1, false)
}

// A room of 6 is just enough for a Spread2 of 36, and not for one of 38, which
// is the next: Spread2 is even where Middle2 is.
func TestChainLikelyWhereTheSquareIsJustMet(t *testing.T) {
	for _, c := range []struct {
		list []impl.Link
		want bool
	}{
		{links([4]int{1, 0, 3, 3}), true},
		{links([4]int{1, 0, 3, 3}, [4]int{1, 0, 1, 0}, [4]int{1, 0, 0, 1}), false},
		{links([4]int{1, 0, 2, 3}, [4]int{1, 0, 2, 1}), true},
		{links([4]int{-1, 0, 3, 3}, [4]int{-1, 0, 1, 0}, [4]int{1, 0, 1, 0}), false},
	} {
		chain := checkChain(t, c.list)
		if chain.Middle2 != 0 {
			t.Fatal("another middle", c.list, chain)
		}
		checkLikely(t, c.list, -3, 3, c.want)
	}
}

func TestChainLikelyOfTheGreatestChains(t *testing.T) {
	const m = impl.MaxAt
	for _, sign := range []int{1, -1} {
		for _, row := range [][4]int{{sign, m, m, m}, {sign, -m, m, m}, {sign, m, m, 0}, {sign, -m, 0, m}, {sign, m, 0, 0}} {
			list := alikeLinks(impl.MaxLinks, row)
			c := checkChain(t, list)
			root := int(new(big.Int).Sqrt(big.NewInt(int64(c.Spread2))).Int64())
			for _, middle := range []int{c.Middle2 / 2, 0, c.Least, c.Most, 2 * c.Least, 2 * c.Most, 4 * c.Least, 4 * c.Most, least / 2, greatest / 2} {
				for off := -2; off <= 2; off++ {
					checkBounds(t, list, middle-root/2+off, greatest)
					checkBounds(t, list, least, middle+root/2+off)
					checkBounds(t, list, middle-root/2+off, middle+root/2-off)
					checkBounds(t, list, middle+off, greatest)
					checkBounds(t, list, least, middle+off)
				}
			}
			for _, far := range []int{1 << 40, 1 << 61, 1 << 62, 1<<62 + 1, 1<<62 + m, 3 << 61, greatest - 1, greatest} {
				checkBounds(t, list, -far, far)
				checkBounds(t, list, -far-1, far)
				checkBounds(t, list, far, greatest)
				checkBounds(t, list, least, -far)
				checkBounds(t, list, far, -far)
			}
		}
	}
}

// checkLinks: all four calls answer that code, whatever else they are given.
func checkLinks(t *testing.T, list []impl.Link, code int) {
	t.Helper()
	if want := exactLinksCode(list); want != code {
		t.Fatal("the case itself is wrong", short(list), want, code)
	}
	if code == impl.OK {
		checkChain(t, list)
		return
	}
	if c, got := impl.ChainOf(list); c != (impl.Chain{}) || got != code {
		t.Error("ChainOf", short(list), c, got, "not", code)
	}
	for _, low := range []int{least, 0, greatest} {
		for _, high := range []int{least, 0, greatest} {
			if safe, corner, got := impl.ChainSafe(list, low, high); safe || len(corner) != 0 || got != code {
				t.Error("ChainSafe", short(list), low, high, safe, corner, got, "not", code)
			}
			if likely, got := impl.ChainLikely(list, low, high); likely || got != code {
				t.Error("ChainLikely", short(list), low, high, likely, got, "not", code)
			}
		}
	}
	for _, total := range []int{least, -1, 0, 1, impl.MaxAt, impl.MaxAt + 1, greatest} {
		if shared, got := impl.ChainShare(list, total); len(shared) != 0 || got != code {
			t.Error("ChainShare", short(list), total, shared, got, "not", code)
		}
	}
}

func TestLinksByTheirNumbers(t *testing.T) {
	const m = impl.MaxAt
	right := links([4]int{1, 1, 1, 1}, [4]int{-1, 1, 1, 1}, [4]int{1, 1, 0, 0})
	for _, c := range []struct {
		field        func(*impl.Link) *int
		right, wrong []int
	}{
		{func(l *impl.Link) *int { return &l.Sign }, []int{1, -1}, []int{0, 2, -2, 3, least, least + 1, greatest, 1 << 32, 1<<32 + 1, -1 << 32}},
		{func(l *impl.Link) *int { return &l.Size }, []int{-m, 1 - m, 0, m - 1, m}, []int{m + 1, -m - 1, least, greatest, 1 << 32}},
		{func(l *impl.Link) *int { return &l.Plus }, []int{0, 1, m - 1, m}, []int{m + 1, -1, -m, least, greatest, 1 << 32}},
		{func(l *impl.Link) *int { return &l.Minus }, []int{0, 1, m - 1, m}, []int{m + 1, -1, -m, least, greatest, 1 << 32}},
	} {
		for i, number := range slices.Concat(c.right, c.wrong) {
			code := impl.OK
			if i >= len(c.right) {
				code = impl.ErrBad
			}
			for at := range right {
				list := slices.Clone(right)
				*c.field(&list[at]) = number
				checkLinks(t, list, code)
			}
		}
	}
	checkLinks(t, []impl.Link{{}}, impl.ErrBad)
	checkLinks(t, []impl.Link{link("a", least, least, least, least)}, impl.ErrBad)
	checkLinks(t, []impl.Link{link("a", greatest, greatest, greatest, greatest)}, impl.ErrBad)
	checkLinks(t, []impl.Link{link("a", 1, 0, greatest, -greatest)}, impl.ErrBad)
	checkLinks(t, []impl.Link{link("a", 1, 0, 1, -1)}, impl.ErrBad)
}

func TestLinksByTheirNames(t *testing.T) {
	for _, c := range []struct {
		names string
		code  int
	}{
		{"a", impl.OK}, {"a b", impl.OK}, {"a A _ a0 a1", impl.OK}, {"дом Größe λ1 ß é É", impl.OK}, {strings.Repeat("a", impl.MaxName), impl.OK}, {strings.Repeat("д", impl.MaxName/2), impl.OK},
		{strings.Repeat("a", impl.MaxName) + " " + strings.Repeat("a", impl.MaxName-1) + "b", impl.OK},
		{"a a", impl.ErrBad}, {"a b a", impl.ErrBad}, {"b a a", impl.ErrBad}, {"дом c дом", impl.ErrBad}, {"é é", impl.ErrBad},
		{"9a", impl.ErrBad}, {"a 9", impl.ErrBad}, {"a b-c", impl.ErrBad}, {"a×b", impl.ErrBad}, {"日本", impl.ErrBad}, {"a \xff", impl.ErrBad}, {"\xc3", impl.ErrBad},
		{strings.Repeat("a", impl.MaxName+1), impl.ErrBad}, {strings.Repeat("д", impl.MaxName/2) + "a", impl.ErrBad}, {"a " + strings.Repeat("b", impl.MaxText+1), impl.ErrBad},
	} {
		var list []impl.Link
		for i, of := range strings.Fields(c.names) {
			list = append(list, link(of, 1-i%2*2, i, i, 1)) // of one name they differ in all else
		}
		checkLinks(t, list, c.code)
	}
	checkLinks(t, []impl.Link{link("", 1, 1, 1, 1)}, impl.ErrBad)
	checkLinks(t, []impl.Link{link("a", 1, 1, 1, 1), link("", 1, 1, 1, 1)}, impl.ErrBad)
	checkLinks(t, []impl.Link{link(" ", 1, 1, 1, 1)}, impl.ErrBad)
	checkLinks(t, []impl.Link{link("a ", 1, 1, 1, 1)}, impl.ErrBad)
}

func TestLinksByHowMany(t *testing.T) {
	row := [4]int{1, 2, 1, 0}
	checkLinks(t, nil, impl.ErrBad)
	checkLinks(t, []impl.Link{}, impl.ErrBad)
	for count, code := range map[int]int{
		1: impl.OK, 2: impl.OK, impl.MaxLinks - 1: impl.OK, impl.MaxLinks: impl.OK, impl.MaxLinks + 1: impl.ErrBad, 2 * impl.MaxLinks: impl.ErrBad,
		impl.MaxList: impl.ErrBad, impl.MaxList + 1: impl.ErrLong, 2 * impl.MaxList: impl.ErrLong,
	} {
		checkLinks(t, alikeLinks(count, row), code)
	}
	checkLinks(t, make([]impl.Link, impl.MaxList), impl.ErrBad)
	checkLinks(t, make([]impl.Link, impl.MaxList+1), impl.ErrLong)
	last := alikeLinks(impl.MaxLinks, row)
	last[impl.MaxLinks-1].Name = last[0].Name
	checkLinks(t, last, impl.ErrBad)
	last[impl.MaxLinks-1].Name = last[impl.MaxLinks-2].Name
	checkLinks(t, last, impl.ErrBad)
}
