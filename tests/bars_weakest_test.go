package tests

import (
	"fmt"
	"math/big"
	"math/rand"
	"slices"
	"testing"

	"loop.example/g00056/impl"
)

// exactWeakest holds each share against all others, of forces that are told.
func exactWeakest(forces []impl.Frac, limits []int) (int, impl.Frac, int) {
	var shares []*big.Rat
	for i, force := range forces {
		share := ratOf(force.N, force.D)
		shares = append(shares, share.Quo(share.Abs(share), ratOf(limits[i], 1)))
	}
	for _, share := range shares {
		if _, code := rightOf(share); code != impl.OK {
			return 0, impl.Frac{}, code
		}
	}
	for i, share := range shares {
		if !slices.ContainsFunc(shares, func(other *big.Rat) bool { return other.Cmp(share) > 0 }) {
			f, _ := rightOf(share)
			return i, f, impl.OK
		}
	}
	return 0, impl.Frac{}, impl.ErrNone
}

// checkWeakest: of a frame that is at rest, and of right limits.
func checkWeakest(t *testing.T, f impl.Frame, limits []int) (int, impl.Frac, int) {
	t.Helper()
	s, code := impl.Balance(f)
	if code != impl.OK {
		t.Fatal("the case itself is wrong", f, code)
	}
	want, wantShare, wantCode := exactWeakest(s.Forces, limits)
	number, share, code := impl.Weakest(f, limits)
	if number != want || share != wantShare || code != wantCode {
		t.Fatal("Weakest", f, limits, number, share, code, "not", want, wantShare, wantCode)
	}
	return number, share, code
}

func checkWeakestTold(t *testing.T, told string, limits []int, number int, share impl.Frac) {
	t.Helper()
	f := frameTold(t, told)
	got, gotShare, code := impl.Weakest(f, limits)
	if got != number || gotShare != share || code != impl.OK {
		t.Error("Weakest", told, limits, got, gotShare, code, "not", number, share)
	}
	checkWeakest(t, f, limits)
}

// checkNotWeakest: that code, and nothing with it.
func checkNotWeakest(t *testing.T, f impl.Frame, limits []int, code int) {
	t.Helper()
	if number, share, got := impl.Weakest(f, limits); number != 0 || share != (impl.Frac{}) || got != code {
		t.Error("Weakest", short(f), short(limits), number, share, got, "not", code)
	}
}

func TestWeakestTold(t *testing.T) {
	checkWeakestTold(t, "0-g:5 | 10", []int{4}, 0, frac(5, 2))
	checkWeakestTold(t, "0-g:5 | -10", []int{4}, 0, frac(5, 2))
	checkWeakestTold(t, "0-g:1 | 1000", []int{1}, 0, frac(1000, 1))
	checkWeakestTold(t, "0-g:1 | 1000", []int{greatestLimit}, 0, frac(1, 1000))
	checkWeakestTold(t, "0-g:1 | 1", []int{greatestLimit}, 0, frac(1, greatestLimit))
	checkWeakestTold(t, "0-g:2 0-g:5 | -3", []int{2, 10}, 0, frac(3, 7))
	checkWeakestTold(t, "0-g:2 0-g:5 | -3", []int{2, 4}, 1, frac(15, 28))
	// of the forces -6, -4 and -3 one below 0 is weakest, by its size
	checkWeakestTold(t, "0-g:1 1-0:1 2-1:1 | 2 1 3", []int{1, 1, 1}, 0, frac(6, 1))
	checkWeakestTold(t, "0-g:1 1-0:1 2-1:1 | 2 1 3", []int{3, 1, 1}, 1, frac(4, 1))
	checkWeakestTold(t, "0-g:1 1-0:1 2-1:1 | 2 1 3", []int{3, 2, 1}, 2, frac(3, 1))
	checkWeakestTold(t, "0-g:1 1-0:1 1-2:1 | 2 1 3", []int{3, 2, 1}, 2, frac(3, 1))
	checkWeakestTold(t, "0-g:1 0-1:1 2-1:1 | 2 1 3", []int{3, 1, 1}, 1, frac(4, 1))
	checkWeakestTold(t, "0-g:1 0-1:1 1-2:1 | -2 -1 -3", []int{2, 1, 1}, 1, frac(4, 1))
	// one above 0 and one below it
	checkWeakestTold(t, "0-g:2 1-g:4 | 6 -7", []int{1, 1}, 1, frac(7, 1))
	checkWeakestTold(t, "0-g:2 1-g:4 | 7 -6", []int{1, 1}, 0, frac(7, 1))
	checkWeakestTold(t, "0-g:2 1-g:4 | -7 6", []int{1, 1}, 0, frac(7, 1))
	checkWeakestTold(t, "0-g:2 1-g:4 | -6 7", []int{1, 1}, 1, frac(7, 1))
}

func TestWeakestOfAlikeShares(t *testing.T) {
	checkWeakestTold(t, "0-g:2 1-0:3 | 0 6", []int{3, 3}, 0, frac(2, 1))
	checkWeakestTold(t, "0-g:2 0-1:3 | 0 6", []int{3, 3}, 0, frac(2, 1))
	checkWeakestTold(t, "0-g:2 1-g:3 | 6 -6", []int{3, 3}, 0, frac(2, 1))
	checkWeakestTold(t, "0-g:2 1-g:3 | -6 6", []int{3, 3}, 0, frac(2, 1))
	checkWeakestTold(t, "0-g:1 1-0:1 2-1:1 | 0 0 4", []int{5, 2, 2}, 1, frac(2, 1))
	checkWeakestTold(t, "0-g:1 1-0:1 2-1:1 | 0 0 4", []int{2, 5, 2}, 0, frac(2, 1))
	checkWeakestTold(t, "0-g:1 1-0:1 2-1:1 | 0 0 4", []int{2, 2, 1}, 2, frac(4, 1))
	// alike as fractions, by other forces and limits
	checkWeakestTold(t, "0-g:1 1-0:1 2-1:1 | 2 1 3", []int{4, 3, 2}, 0, frac(3, 2))
	checkWeakestTold(t, "0-g:1 1-0:1 2-1:1 | 2 1 3", []int{5, 3, 2}, 2, frac(3, 2))
	checkWeakestTold(t, "0-g:1 1-0:1 2-1:1 | 1 2 3", []int{8, 5, 3}, 1, frac(1, 1))
	// no force at all
	checkWeakestTold(t, "0-g:3 | 0", []int{7}, 0, frac(0, 1))
	checkWeakestTold(t, "0-g:3 1-0:2 2-0:1 | 0 0 0", []int{3, 2, greatestLimit}, 0, frac(0, 1))
	// none but in a later spring
	checkWeakestTold(t, "0-g:1 1-0:2 | -4 4", []int{1, greatestLimit}, 1, frac(1, 250000))
	checkWeakestTold(t, "1-0:2 0-g:1 | -4 4", []int{8, 1}, 0, frac(1, 2))
}

// A share that is no right fraction is ErrOver, though another one is greatest.
func TestSharesThatAreTooGreat(t *testing.T) {
	for _, c := range []struct {
		told   string
		limits []int
		code   int
	}{
		{"0-g:1 0-g:999 | 1", []int{greatestLimit, 1}, impl.OK}, // the lesser share is 1/MaxPart
		{"0-g:1 0-g:1000 | 1", []int{greatestLimit, 1}, impl.ErrOver}, {"0-g:1000 0-g:1 | 1", []int{1, greatestLimit}, impl.ErrOver},
		{"0-g:1 0-g:1000 | 1", []int{999000, 1}, impl.OK}, {"0-g:1 0-g:1000 | 1", []int{999001, 1}, impl.ErrOver},
		{"0-g:1 0-g:1000 | -1", []int{greatestLimit, 1}, impl.ErrOver},
		{"0-g:1000 0-g:1000 0-g:3 | 1", []int{1, 1, 900000}, impl.OK}, // right only once it is reduced
		{"0-g:1000 0-g:1000 0-g:3 | 1", []int{1, 1, 900001}, impl.ErrOver}, {"0-g:1000 0-g:3 0-g:1000 | 1", []int{1, 999983, 1}, impl.ErrOver},
		{"0-g:1000 0-g:1000 0-g:3 | 0", []int{1, 1, 999983}, impl.OK},
	} {
		f := frameTold(t, c.told)
		if _, _, code := checkWeakest(t, f, c.limits); code != c.code {
			t.Error("Weakest", c.told, c.limits, code, "not", c.code)
		}
		if c.code != impl.OK {
			checkNotWeakest(t, f, c.limits, c.code)
		}
	}
}

func TestWrongLimits(t *testing.T) {
	row := frameTold(t, "0-g:2 1-0:3 1-0:1 | 0 6")
	for count := range 10 {
		want := impl.ErrBad
		if count == 3 {
			want = impl.OK
		}
		if _, _, code := impl.Weakest(row, allOf(1, count)); code != want {
			t.Error("Weakest", row, count, "limits", code, "not", want)
		}
		if count != 3 {
			checkNotWeakest(t, row, allOf(1, count), impl.ErrBad)
			checkNotWeakest(t, row, allOf(0, count), impl.ErrBad)
		}
	}
	checkNotWeakest(t, row, nil, impl.ErrBad)
	for at := range 3 {
		for _, c := range []struct{ limit, code int }{
			{least, impl.ErrBad}, {least + 1, impl.ErrBad}, {-1 << 32, impl.ErrBad}, {-greatestLimit, impl.ErrBad}, {-1, impl.ErrBad}, {0, impl.ErrBad}, {1, impl.OK}, {2, impl.OK}, {999999, impl.OK},
			{greatestLimit, impl.OK}, {greatestLimit + 1, impl.ErrBad}, {1 << 32, impl.ErrBad}, {1<<32 + 1, impl.ErrBad}, {greatest - 1, impl.ErrBad}, {greatest, impl.ErrBad},
		} {
			limits := []int{5, 6, 7}
			limits[at] = c.limit
			if c.code == impl.OK {
				checkWeakest(t, row, limits)
			} else {
				checkNotWeakest(t, row, limits, c.code)
			}
		}
	}
	// ahead of a share that would be too great
	thin := frameTold(t, "0-g:1 0-g:1000 | 1")
	checkNotWeakest(t, thin, []int{greatestLimit, 1}, impl.ErrOver)
	for _, limits := range [][]int{{greatestLimit}, {greatestLimit, 0}, {greatestLimit, 1, 1}, {greatestLimit, greatestLimit + 1}} {
		checkNotWeakest(t, thin, limits, impl.ErrBad)
	}
}

// Balance's codes come ahead of those of the limits, and too long a list of these
// ahead of all. A frame without springs is not at rest, whatever its limits are.
func TestCodesOfWeakestByTheirOrder(t *testing.T) {
	for _, c := range []struct {
		told string
		code int
	}{
		{"0-g:2 1-0:3 | 0 6", impl.ErrBad}, // of the limits
		{"0-g:2 1-1:3 | 0 6", impl.ErrBad},
		{"|", impl.ErrBad},
		{"| 0", impl.ErrState},
		{"| 3 4 5", impl.ErrState},
		{"0-1:3 | 0 6", impl.ErrState},
		{"0-g:5 1-0:53 2-0:243 2-1:80 | 3 0 0", impl.ErrOver},
		{"0-g:219 1-g:295 2-1:62 0-2:223 | 70 -22 0", impl.ErrOver},
	} {
		f := frameTold(t, c.told)
		wrong := [][]int{allOf(0, len(f.Springs)+1), allOf(greatest, len(f.Springs)+2), allOf(1, len(f.Springs)+1), allOf(1, impl.MaxList), allOf(-1, impl.MaxList)}
		for _, limits := range wrong {
			checkNotWeakest(t, f, limits, c.code)
		}
		for _, limits := range [][]int{allOf(1, impl.MaxList+1), allOf(-1, impl.MaxList+1), allOf(1, 2*impl.MaxList)} {
			checkNotWeakest(t, f, limits, impl.ErrLong)
		}
	}
	for _, limits := range [][]int{nil, {}, {1}, {0}} {
		checkNotWeakest(t, frameTold(t, "| 0"), limits, impl.ErrState)
	}
}

func TestWeakestOfDrawnFrames(t *testing.T) {
	draw := rand.New(rand.NewSource(178))
	codes, later := map[int]int{}, 0
	drawnFrames(draw, 100, func(f impl.Frame) {
		_, frameCode := impl.Balance(f)
		for _, most := range []int{1, 4, 1000, greatestLimit} {
			var limits []int
			for range f.Springs {
				limits = append(limits, 1+draw.Intn(most))
			}
			if frameCode != impl.OK {
				checkNotWeakest(t, f, limits, frameCode)
				continue
			}
			number, _, code := checkWeakest(t, f, limits)
			codes[code]++
			if number > 0 {
				later++
			}
		}
	})
	if codes[impl.OK] < 20000 || codes[impl.ErrOver] < 500 || later < 10000 {
		t.Error("codes", codes, "not the first spring", later)
	}
}

// Loads the other way round, springs whose ends are exchanged: the weakest spring
// and its share stay; limits so many times as great: its share is so much less.
func TestWeakestHangsOnSizesAlone(t *testing.T) {
	draw := rand.New(rand.NewSource(179))
	compared := 0
	drawnFrames(draw, 10, func(f impl.Frame) {
		limits := drawnSizes(draw, len(f.Springs), 50)
		for i := range limits {
			limits[i] = max(1, limits[i])
		}
		number, share, code := impl.Weakest(f, limits)
		g, greater := copiedFrame(f), slices.Clone(limits)
		for i := range g.Loads {
			g.Loads[i] = -g.Loads[i]
		}
		for i, s := range g.Springs {
			if s.B >= 0 {
				g.Springs[i].A, g.Springs[i].B = s.B, s.A
			}
			greater[i] *= 7
		}
		if other, otherShare, otherCode := impl.Weakest(g, limits); other != number || otherShare != share || otherCode != code {
			t.Fatal("Weakest", f, limits, number, share, code, "but", g, other, otherShare, otherCode)
		}
		other, otherShare, otherCode := impl.Weakest(f, greater)
		if code != impl.OK || otherCode != impl.OK {
			return
		}
		compared++
		if sevenfold, _ := impl.FracMul(otherShare, frac(7, 1)); other != number || sevenfold != share {
			t.Fatal("Weakest", f, limits, number, share, "but", greater, other, otherShare)
		}
	})
	if compared < 500 {
		t.Error("compared", compared)
	}
}

// barCalls: calls of every function of the layer, right, at an edge and wrong.
func barCalls() []func() string {
	var calls []func() string
	tell := func(call func() string) { calls = append(calls, call) }
	for _, f := range []impl.Frame{
		{}, frameOf(1, []int{5}), frameOf(1, []int{5}, spring(0, -1, 2)), frameOf(2, []int{0, 6}, spring(0, -1, 2), spring(1, 0, 3)), frameOf(2, []int{0, 6}, spring(0, 1, 2)), frameOf(2, []int{0, 6}, spring(0, 0, 2)),
		frameOf(3, []int{3, 0, 0}, spring(0, -1, 5), spring(1, 0, 53), spring(2, 0, 243), spring(2, 1, 80)), frameOf(3, []int{70, -22, 0}, spring(0, -1, 219), spring(1, -1, 295), spring(2, 1, 62), spring(0, 2, 223)),
		frameOf(greatest, []int{least}, spring(least, greatest, least)), frameOf(1, make([]int, impl.MaxList+1), make([]impl.Spring, impl.MaxList+1)...),
	} {
		tell(func() string { return fmt.Sprint("FrameOK ", impl.FrameOK(f)) })
		tell(func() string { return fmt.Sprint(impl.Balance(f)) })
		for _, limits := range [][]int{nil, {1}, {3, 3}, {greatestLimit, 1, 2, 3}, {0, 1}, {least, greatest}, allOf(1, impl.MaxList), allOf(1, impl.MaxList+1)} {
			tell(func() string { return fmt.Sprint(impl.Weakest(f, limits)) })
		}
	}
	return calls
}
