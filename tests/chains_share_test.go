package tests

import (
	"fmt"
	"math/big"
	"math/rand"
	"slices"
	"testing"

	"loop.example/g00056/impl"
)

// tolerances are each link's Plus and Minus, in their order.
func tolerances(list []impl.Link) []int {
	var numbers []int
	for _, l := range list {
		numbers = append(numbers, l.Plus, l.Minus)
	}
	return numbers
}

// tolerated are links of these tolerances, two a link, with both signs.
func tolerated(numbers ...int) []impl.Link {
	var rows [][4]int
	for i := 0; i < len(numbers); i += 2 {
		rows = append(rows, [4]int{1 - i%4, 7 - i, numbers[i], numbers[i+1]})
	}
	return links(rows...)
}

func allOf(number, count int) []int { return slices.Repeat([]int{number}, count) }

// proportion of a total that a part has, of parts that come to a whole.
func proportion(total, part int, whole *big.Int) *big.Rat {
	product := new(big.Int).Mul(big.NewInt(int64(total)), big.NewInt(int64(part)))
	return new(big.Rat).SetFrac(product, whole)
}

// exactShares gives away what is left one by one.
func exactShares(numbers []int, total int) []int {
	whole := bigSum(numbers...)
	shares := make([]int, len(numbers))
	rest := make([]*big.Rat, len(numbers))
	left := total
	for i, n := range numbers {
		exact := proportion(total, n, whole)
		floor := new(big.Int).Quo(exact.Num(), exact.Denom())
		shares[i] = int(floor.Int64())
		rest[i] = exact.Sub(exact, new(big.Rat).SetInt(floor))
		left -= shares[i]
	}
	for ; left > 0; left-- {
		first := 0
		for i := range rest {
			if rest[i].Cmp(rest[first]) > 0 {
				first = i
			}
		}
		shares[first]++
		rest[first] = big.NewRat(-1, 1)
	}
	return shares
}

// checkShared: the shares come to the total, none is a whole one off its
// proportion, and a greater part, or an earlier one of alike ones, has no less.
func checkShared(t *testing.T, numbers, shares []int, total int) {
	t.Helper()
	if bigSum(shares...).Cmp(bigSum(total)) != 0 {
		t.Fatal("shares come to another total", numbers, total, shares)
	}
	whole := bigSum(numbers...)
	for i, n := range numbers {
		off := new(big.Rat).Sub(big.NewRat(int64(shares[i]), 1), proportion(total, n, whole))
		if off.Abs(off).Cmp(big.NewRat(1, 1)) >= 0 || n == 0 && shares[i] != 0 {
			t.Fatal("a share is off", i, numbers, total, shares)
		}
		for j, other := range numbers[:i] {
			if other > n && shares[j] < shares[i] || other < n && shares[j] > shares[i] || other == n && (shares[j] < shares[i] || shares[j] > shares[i]+1) {
				t.Fatal("a share is less than that of a lesser part", j, i, numbers, total, shares)
			}
		}
	}
}

func checkShare(t *testing.T, list []impl.Link, total int) []impl.Link {
	t.Helper()
	shared, code := impl.ChainShare(list, total)
	if code != impl.OK || len(shared) != len(list) {
		t.Fatal("ChainShare", list, total, shared, code)
	}
	for i, l := range list {
		if got := shared[i]; got != link(l.Name, l.Sign, l.Size, got.Plus, got.Minus) {
			t.Fatal("ChainShare", list, total, "another link", got)
		}
	}
	numbers, shares := tolerances(list), tolerances(shared)
	checkShared(t, numbers, shares, total)
	if want := exactShares(numbers, total); !slices.Equal(shares, want) {
		t.Fatal("ChainShare", list, total, shares, "not", want)
	}
	return shared
}

func TestChainShareTold(t *testing.T) {
	const m = impl.MaxAt
	for _, c := range []struct {
		numbers []int
		total   int
		want    []int
	}{
		{[]int{1, 1}, 0, []int{0, 0}},
		{[]int{1, 1}, 4, []int{2, 2}},
		{[]int{1, 1}, 3, []int{2, 1}}, // alike ones: Plus ahead of Minus
		{[]int{1, 1}, 1, []int{1, 0}},
		{[]int{1, 2}, 1, []int{0, 1}},
		{[]int{2, 1}, 1, []int{1, 0}},
		{[]int{1, 2}, 2, []int{1, 1}}, // 2/3 and 4/3
		{[]int{1, 2}, 100, []int{33, 67}},
		{[]int{5, 0}, 7, []int{7, 0}},
		{[]int{0, 5}, 7, []int{0, 7}},
		{[]int{0, 1}, m, []int{0, m}},
		{[]int{m, m}, m, []int{m / 2, m / 2}},
		{[]int{m, m}, 1, []int{1, 0}},
		{[]int{m, 1}, m, []int{m - 1, 1}}, // m less m/(m+1), and m/(m+1)
		{[]int{m, 1}, 1, []int{1, 0}},
		{[]int{1, m}, m, []int{1, m - 1}},
		{[]int{m, 0, 0, m}, m - 1, []int{m / 2, 0, 0, m/2 - 1}},

		{[]int{3, 4, 5, 8}, 10, []int{2, 2, 2, 4}}, // comes out even but for halves
		{[]int{3, 4, 5, 8}, 20, []int{3, 4, 5, 8}},
		{[]int{3, 4, 5, 8}, 40, []int{6, 8, 10, 16}},
		{[]int{3, 5, 7, 0}, 4, []int{1, 1, 2, 0}},                         // remainders of 12, 5, 13, 0: two are left
		{[]int{0, 3, 2, 0}, 4, []int{0, 2, 2, 0}},                         // remainders of 2 and 3: one is left
		{[]int{0, 0, 3, 1, 0, 0, 1, 3}, 4, []int{0, 0, 2, 1, 0, 0, 0, 1}}, // four halves, two are left
		{[]int{0, 0, 3, 1, 0, 0, 1, 3}, 2, []int{0, 0, 1, 0, 0, 0, 0, 1}},
		{[]int{0, 0, 3, 1, 0, 0, 1, 3}, 1, []int{0, 0, 1, 0, 0, 0, 0, 0}},

		{[]int{1, 1, 1, 1}, 1, []int{1, 0, 0, 0}},
		{[]int{1, 1, 1, 1}, 2, []int{1, 1, 0, 0}},
		{[]int{1, 1, 1, 1}, 3, []int{1, 1, 1, 0}},
		{[]int{1, 1, 1, 1}, 5, []int{2, 1, 1, 1}},
		{[]int{1, 1, 1, 1}, 6, []int{2, 2, 1, 1}},
		{[]int{1, 1, 1, 1}, 7, []int{2, 2, 2, 1}},
		{[]int{2, 1, 1, 3}, 10, []int{3, 2, 1, 4}}, // remainders of 6, 3, 3, 2
		{[]int{1, 2, 2, 1}, 3, []int{1, 1, 1, 0}},  // halves twice, none else
		{allOf(1, 80), 79, append(allOf(1, 79), 0)},
		{allOf(1, 80), 80, allOf(1, 80)},
		{allOf(1, 80), 81, append([]int{2}, allOf(1, 79)...)},
		{allOf(m, 80), m, allOf(m/80, 80)},
		{allOf(m, 80), m - 1, append(allOf(m/80, 79), m/80-1)},
		{append(allOf(m, 79), 0), m, slices.Concat(allOf(m/79+1, m%79), allOf(m/79, 79-m%79), []int{0})},
	} {
		if got := checkShare(t, tolerated(c.numbers...), c.total); !slices.Equal(tolerances(got), c.want) {
			t.Errorf("ChainShare %v of %d: %v, not %v", c.numbers, c.total, tolerances(got), c.want)
		}
	}
}

func TestChainShareOfEachTotal(t *testing.T) {
	for _, numbers := range [][]int{
		{1, 0}, {2, 3}, {1, 1, 1, 0}, {7, 3, 2, 11}, {0, 1, 0, 6, 0, 6}, {5, 5, 5, 5, 5, 5}, {1, 2, 3, 4, 5, 6, 7, 8}, {100000, 1, 99999, 50000}, allOf(3, 80),
	} {
		list := tolerated(numbers...)
		for total := range 200 {
			checkShare(t, list, total)
		}
		for total := impl.MaxAt; total > impl.MaxAt-50; total-- {
			checkShare(t, list, total)
		}
	}
}

// A total that is shared already is shared as it is, and what all parts have
// in common makes no difference.
func TestChainShareOfWhatIsShared(t *testing.T) {
	for _, numbers := range [][]int{{1, 0}, {2, 3, 0, 7}, {9, 1, 4, 4, 4, 0, 0, 3}} {
		for total := 1; total < 60; total++ {
			shared := checkShare(t, tolerated(numbers...), total)
			if again := checkShare(t, shared, total); !slices.Equal(again, shared) {
				t.Fatal("shared again", numbers, total, shared, again)
			}
			times := make([]int, len(numbers))
			for i, n := range numbers {
				times[i] = 1000 * n
			}
			if again := checkShare(t, tolerated(times...), total); !slices.Equal(again, shared) {
				t.Fatal("shared by greater parts", numbers, total, shared, again)
			}
		}
	}
}

func TestChainShareCodes(t *testing.T) {
	const m = impl.MaxAt
	some, none := tolerated(0, 0, 0, 1), tolerated(0, 0, 0, 0)
	for _, c := range []struct {
		list  []impl.Link
		total int
		code  int
	}{
		{some, -1, impl.ErrRange}, {some, m + 1, impl.ErrRange}, {some, least, impl.ErrRange}, {some, greatest, impl.ErrRange}, {some, 1 << 32, impl.ErrRange},
		{none, -1, impl.ErrRange}, {none, m + 1, impl.ErrRange}, {none, least, impl.ErrRange}, {none, greatest, impl.ErrRange},
		{none, 0, impl.ErrZero}, {none, 1, impl.ErrZero}, {none, m, impl.ErrZero},
		{tolerated(0, 0), 0, impl.ErrZero}, {tolerated(allOf(0, 80)...), 5, impl.ErrZero},
	} {
		if shared, code := impl.ChainShare(c.list, c.total); len(shared) != 0 || code != c.code {
			t.Error("ChainShare", c.list, c.total, shared, code, "not", c.code)
		}
	}
	for _, total := range []int{0, 1, m - 1, m} {
		checkShare(t, some, total)
	}
}

// drawnNear is 0 at times, an edge at times.
func drawnNear(draw *rand.Rand, low, high int) int {
	switch draw.Intn(6) {
	case 0:
		return max(low, min(0, high))
	case 1:
		return high
	}
	return low + draw.Intn(high-low+1)
}

func drawnLinks(draw *rand.Rand, reach int) []impl.Link {
	var rows [][4]int
	for range 1 + draw.Intn(impl.MaxLinks) {
		rows = append(rows, [4]int{1 - 2*draw.Intn(2), drawnNear(draw, -reach, reach), drawnNear(draw, 0, reach), drawnNear(draw, 0, reach)})
	}
	return links(rows...)
}

func TestDrawnChains(t *testing.T) {
	draw := rand.New(rand.NewSource(8))
	for _, reach := range []int{1, 3, 20, 1000, impl.MaxAt} {
		for range 300 {
			list := drawnLinks(draw, reach)
			c := checkChain(t, list)
			checkWithin(t, draw, list, c)
			checkFlipped(t, list, c)
			checkShuffled(t, draw, list, c)
			for range 20 {
				low := c.Least + draw.Intn(c.Most-c.Least+3) - 1
				checkBounds(t, list, low, low+draw.Intn(c.Most-low+3))
			}
			if bigSum(tolerances(list)...).Sign() > 0 {
				checkShare(t, list, drawnNear(draw, 0, reach))
				checkShare(t, list, draw.Intn(len(list)*2))
				checkShare(t, list, draw.Intn(impl.MaxAt+1))
			}
		}
	}
}

// checkWithin draws sizes within the tolerances: what is safe is safe for all.
func checkWithin(t *testing.T, draw *rand.Rand, list []impl.Link, c impl.Chain) {
	t.Helper()
	for range 20 {
		sizes := make([]int, len(list))
		for i, l := range list {
			sizes[i] = l.Size - l.Minus + draw.Intn(l.Plus+l.Minus+1)
		}
		sum := signedSum(list, sizes)
		if sum < c.Least || sum > c.Most {
			t.Fatal("a sum beyond the chain", list, sizes, sum, c)
		}
	}
}

// checkFlipped: with all signs turned round, the ends change places.
func checkFlipped(t *testing.T, list []impl.Link, c impl.Chain) {
	t.Helper()
	flipped := slices.Clone(list)
	for i := range flipped {
		flipped[i].Sign = -flipped[i].Sign
	}
	got, code := impl.ChainOf(flipped)
	if want := (impl.Chain{Least: -c.Most, Most: -c.Least, Middle2: -c.Middle2, Spread2: c.Spread2}); got != want || code != impl.OK {
		t.Fatal("flipped", flipped, got, code, "not", want)
	}
	_, corner, _ := impl.ChainSafe(list, c.Least+1, greatest)
	_, other, _ := impl.ChainSafe(flipped, least, -c.Least-1)
	if !slices.Equal(corner, other) {
		t.Fatal("flipped", list, "corners", corner, other)
	}
}

// checkShuffled: a chain does not hang on the order of its links.
func checkShuffled(t *testing.T, draw *rand.Rand, list []impl.Link, c impl.Chain) {
	t.Helper()
	order := draw.Perm(len(list))
	shuffled := make([]impl.Link, len(list))
	for to, from := range order {
		shuffled[to] = list[from]
	}
	if got, code := impl.ChainOf(shuffled); got != c || code != impl.OK {
		t.Fatal("shuffled", shuffled, got, code, "not", c)
	}
	_, corner, _ := impl.ChainSafe(list, least, c.Most-1)
	_, other, _ := impl.ChainSafe(shuffled, least, c.Most-1)
	for to, from := range order {
		if corner[from] != other[to] {
			t.Fatal("shuffled", shuffled, "corners", corner, other)
		}
	}
}

func TestDrawnWrongLinks(t *testing.T) {
	draw := rand.New(rand.NewSource(88))
	numbers := []int{least, -impl.MaxAt - 1, -2, -1, 0, 1, 2, impl.MaxAt, impl.MaxAt + 1, greatest}
	for range 2000 {
		list := drawnLinks(draw, 9)
		for range 1 + draw.Intn(2) {
			l := &list[draw.Intn(len(list))]
			switch number := numbers[draw.Intn(len(numbers))]; draw.Intn(5) {
			case 0:
				l.Sign = number
			case 1:
				l.Size = number
			case 2:
				l.Plus = number
			case 3:
				l.Minus = number
			default:
				l.Name = []string{"l0", "", "new", "дом", "9"}[draw.Intn(5)]
			}
		}
		checkLinks(t, list, exactLinksCode(list))
	}
}

func TestChainAnswersAreNewMemory(t *testing.T) {
	behind := link("behind", 77, 77, 77, 77)
	for _, right := range [][]impl.Link{
		nil, links([4]int{1, 2, 3, 4}), links([4]int{1, 2, 0, 0}), links([4]int{1, 2, 3, 4}, [4]int{-1, 2, 0, 1}, [4]int{-1, 3, 0, 0}), links([4]int{0, 0, 0, 0}), alikeLinks(impl.MaxLinks, [4]int{1, 2, 3, 4}),
	} {
		array := append(slices.Clone(right), behind, behind, behind)
		list := array[:len(right)]
		all := func() string {
			c, code := impl.ChainOf(list)
			low, lowCorner, lowCode := impl.ChainSafe(list, greatest, greatest)
			high, highCorner, highCode := impl.ChainSafe(list, least, least)
			safe, none, safeCode := impl.ChainSafe(list, least, greatest)
			shared, shareCode := impl.ChainShare(list, 5)
			likely, likelyCode := impl.ChainLikely(list, 0, 9)
			told := fmt.Sprint(c, code, low, lowCorner, lowCode, high, highCorner, highCode, safe, none, safeCode, shared, shareCode, likely, likelyCode)
			for _, corner := range [][]int{lowCorner, highCorner, none} {
				for i := range corner[:cap(corner)] {
					corner[:cap(corner)][i] = 77
				}
			}
			for i := range shared[:cap(shared)] {
				shared[:cap(shared)][i] = link("spoilt", 0, 0, 0, 0)
			}
			return told
		}
		first := all()
		if again := all(); again != first {
			t.Error("answers share memory", right, first, again)
		}
		if !slices.Equal(array, append(slices.Clone(right), behind, behind, behind)) {
			t.Error("an argument was changed", right, array)
		}
	}
}

// chainCalls: calls of every function of the layer, right, at an edge and wrong.
func chainCalls() []func() string {
	var calls []func() string
	tell := func(call func() string) { calls = append(calls, call) }
	for _, list := range [][]impl.Link{
		nil, {{}}, links([4]int{1, 30, 2, 1}, [4]int{-1, 12, 1, 3}, [4]int{-1, 10, 0, 0}), links([4]int{-1, 5, 0, 0}), {link("a", 1, 1, 1, 1), link("a", 1, 1, 1, 1)},
		tolerated(1, 1, 1, 1), alikeLinks(impl.MaxLinks, [4]int{1, impl.MaxAt, impl.MaxAt, impl.MaxAt}), alikeLinks(impl.MaxLinks+1, [4]int{1, 1, 1, 1}), make([]impl.Link, impl.MaxList+1), {link("a", least, greatest, least, greatest)},
	} {
		tell(func() string { return fmt.Sprint(impl.ChainOf(list)) })
		for _, n := range []int{least, -1, 0, 1, 6, 13, impl.MaxAt, impl.MaxAt + 1, greatest} {
			tell(func() string { return fmt.Sprint(impl.ChainShare(list, n)) })
			for _, high := range []int{least, 5, 12, greatest} {
				tell(func() string { return fmt.Sprint(impl.ChainSafe(list, n, high)) })
				tell(func() string { return fmt.Sprint(impl.ChainLikely(list, n, high)) })
			}
		}
	}
	return calls
}
