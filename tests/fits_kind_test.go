package tests

import (
	"math/big"
	"testing"

	"loop.example/g00056/impl"
)

// fitKind is what FitKind answers of one fit.
type fitKind struct{ kind, least, most, code int }

func fitOf(sizes [4]int) fitKind {
	kind, low, high, code := impl.FitKind(sizes[0], sizes[1], sizes[2], sizes[3])
	return fitKind{kind, low, high, code}
}

func rightSpan(size, up int) bool { return 0 <= size && size <= up && up <= impl.MaxAt }

// exactFit goes by the four corners of the sizes, in numbers that can not wrap.
func exactFit(s [4]int) fitKind {
	if !rightSpan(s[0], s[1]) || !rightSpan(s[2], s[3]) {
		return fitKind{code: impl.ErrBad}
	}
	low, high := greatest, least
	for _, hole := range s[:2] {
		for _, shaft := range s[2:] {
			clearance := int(new(big.Int).Sub(bigSum(hole), bigSum(shaft)).Int64())
			low, high = min(low, clearance), max(high, clearance)
		}
	}
	kind := impl.FiEither
	if high <= 0 {
		kind = impl.FiTight
	}
	if low >= 0 {
		kind = impl.FiLoose
	}
	return fitKind{kind, low, high, impl.OK}
}

func TestFitLimits(t *testing.T) {
	if impl.MaxMates != 200 || impl.FiLoose != 1 || impl.FiTight != 2 || impl.FiEither != 3 {
		t.Error("limits", impl.MaxMates, impl.FiLoose, impl.FiTight, impl.FiEither)
	}
}

func TestFitKindTold(t *testing.T) {
	const m = impl.MaxAt
	for _, c := range []struct {
		sizes             [4]int
		kind, least, most int
	}{
		{[4]int{20, 23, 10, 15}, impl.FiLoose, 5, 13},
		{[4]int{20, 23, 30, 36}, impl.FiTight, -16, -7},
		{[4]int{20, 23, 18, 25}, impl.FiEither, -5, 5},
		// A least clearance of just 0, and of -1.
		{[4]int{20, 22, 18, 20}, impl.FiLoose, 0, 4},
		{[4]int{20, 22, 18, 21}, impl.FiEither, -1, 4},
		{[4]int{19, 22, 18, 20}, impl.FiEither, -1, 4},
		// A greatest clearance of just 0, and of 1 and -1.
		{[4]int{20, 22, 22, 25}, impl.FiTight, -5, 0},
		{[4]int{20, 22, 21, 25}, impl.FiEither, -5, 1},
		{[4]int{20, 23, 22, 25}, impl.FiEither, -5, 1},
		{[4]int{20, 22, 23, 25}, impl.FiTight, -5, -1},
		{[4]int{20, 21, 20, 21}, impl.FiEither, -1, 1},
		// Both 0: loose ahead of tight.
		{[4]int{5, 5, 5, 5}, impl.FiLoose, 0, 0},
		{[4]int{0, 0, 0, 0}, impl.FiLoose, 0, 0},
		{[4]int{m, m, m, m}, impl.FiLoose, 0, 0},
		// One size alone, of one of them or of both.
		{[4]int{6, 6, 5, 5}, impl.FiLoose, 1, 1},
		{[4]int{5, 5, 6, 6}, impl.FiTight, -1, -1},
		{[4]int{5, 5, 4, 6}, impl.FiEither, -1, 1},
		{[4]int{4, 6, 5, 5}, impl.FiEither, -1, 1},
		{[4]int{5, 6, 5, 5}, impl.FiLoose, 0, 1},
		{[4]int{4, 5, 5, 5}, impl.FiTight, -1, 0},
		{[4]int{5, 5, 4, 5}, impl.FiLoose, 0, 1},
		{[4]int{5, 5, 5, 6}, impl.FiTight, -1, 0},
		// The ends of all sizes.
		{[4]int{m, m, 0, 0}, impl.FiLoose, m, m},
		{[4]int{0, 0, m, m}, impl.FiTight, -m, -m},
		{[4]int{0, m, 0, m}, impl.FiEither, -m, m},
		{[4]int{0, m, 0, 0}, impl.FiLoose, 0, m},
		{[4]int{0, m, m, m}, impl.FiTight, -m, 0},
		{[4]int{0, m - 1, m, m}, impl.FiTight, -m, -1},
	} {
		want := fitKind{c.kind, c.least, c.most, impl.OK}
		if got := fitOf(c.sizes); got != want || exactFit(c.sizes) != want {
			t.Error("FitKind", c.sizes, got, exactFit(c.sizes), "not", want)
		}
	}
}

// A kind is what all sizes of the hole and of the shaft have in common.
func TestFitKindHoldsForAllSizes(t *testing.T) {
	const most = 5
	for code := range most * most * most * most {
		s := [4]int{code % most, code / most % most, code / most / most % most, code / most / most / most}
		got := fitOf(s)
		if got != exactFit(s) {
			t.Fatal("FitKind", s, got, "not", exactFit(s))
		}
		if s[0] > s[1] || s[2] > s[3] {
			if got != (fitKind{code: impl.ErrBad}) {
				t.Fatal("FitKind", s, got)
			}
			continue
		}
		low, high := greatest, least
		for hole := s[0]; hole <= s[1]; hole++ {
			for shaft := s[2]; shaft <= s[3]; shaft++ {
				low, high = min(low, hole-shaft), max(high, hole-shaft)
			}
		}
		if got.least != low || got.most != high || (got.kind == impl.FiLoose) != (low >= 0) || (got.kind == impl.FiTight) != (low < 0 && high <= 0) || (got.kind == impl.FiEither) != (low < 0 && high > 0) {
			t.Fatal("FitKind", s, got, "but clearances from", low, "to", high)
		}
	}
}

func TestFitKindByItsNumbers(t *testing.T) {
	const m = impl.MaxAt
	numbers := []int{least, least + 1, -1 << 32, -m - 1, -m, -1, 0, 1, 7, m - 1, m, m + 1, 1 << 32, 1<<32 + 7, greatest - 1, greatest}
	for _, a := range numbers {
		for _, b := range numbers {
			for _, c := range numbers {
				for _, d := range numbers {
					s := [4]int{a, b, c, d}
					if got := fitOf(s); got != exactFit(s) {
						t.Fatal("FitKind", s, got, "not", exactFit(s))
					}
				}
			}
		}
	}
	for _, s := range [][4]int{
		{7, 6, 1, 2}, {1, 2, 7, 6}, {7, 6, 7, 6}, {1, 0, 0, 0}, {0, 0, 1, 0}, {m, m - 1, 0, 0}, {0, 0, m, m - 1},
		{-1, 0, 0, 0}, {-1, -1, 0, 0}, {0, 0, -1, 0}, {0, 0, -1, -1}, {0, -1, 0, 0}, {0, 0, 0, -1},
		{0, m + 1, 0, 0}, {m + 1, m + 1, 0, 0}, {0, 0, 0, m + 1}, {0, 0, m + 1, m + 1},
		{least, least, least, least}, {greatest, greatest, greatest, greatest}, {least, greatest, least, greatest}, {0, greatest, least, 0},
	} {
		if got := fitOf(s); got != (fitKind{code: impl.ErrBad}) {
			t.Error("FitKind", s, got)
		}
	}
	for _, s := range [][4]int{{7, 7, 1, 2}, {6, 7, 1, 2}, {1, 2, 7, 7}, {1, 2, 6, 7}, {0, m, 0, m}, {m, m, m, m}, {0, 0, 0, 0}} {
		if got := fitOf(s); got.code != impl.OK {
			t.Error("FitKind", s, got)
		}
	}
}
