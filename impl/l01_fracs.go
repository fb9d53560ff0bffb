package impl

import (
	"strconv"
	"strings"
)

const MaxPart = 1000000000

const (
	RdDown = iota + 1
	RdUp
	RdEven
)

type Frac struct{ N, D int }

// A fraction is right if making it anew changes nothing in it.
func FracOK(f Frac) bool {
	made, code := FracOf(f.N, f.D)
	return code == OK && made == f
}

func FracOf(n, d int) (Frac, int) {
	if d == 0 {
		return Frac{}, ErrZero
	}
	top, bottom := magnitude(n), magnitude(d)
	common := commonDivisor(top, bottom)
	top, bottom = top/common, bottom/common
	if top > MaxPart || bottom > MaxPart {
		return Frac{}, ErrOver
	}
	return Frac{N: signed((n < 0) != (d < 0), top), D: int(bottom)}, OK
}

// magnitude has no sign, since the least int has no positive twin.
func magnitude(n int) uint64 {
	if n < 0 {
		return -uint64(n)
	}
	return uint64(n)
}

func signed(negative bool, size uint64) int {
	if negative {
		return -int(size)
	}
	return +int(size)
}

func commonDivisor(a, b uint64) uint64 {
	for b != 0 {
		a, b = b, a%b
	}
	return a
}

// Parts of right fractions are at most MaxPart, so that the products below, and
// a sum of two of them, are within an int.
func FracAdd(a, b Frac) (Frac, int) {
	if !FracOK(a) || !FracOK(b) {
		return Frac{}, ErrBad
	}
	return FracOf(a.N*b.D+b.N*a.D, a.D*b.D)
}

func FracMul(a, b Frac) (Frac, int) {
	if !FracOK(a) || !FracOK(b) {
		return Frac{}, ErrBad
	}
	return FracOf(a.N*b.N, a.D*b.D)
}

func FracLess(a, b Frac) (bool, int) {
	if !FracOK(a) || !FracOK(b) {
		return false, ErrBad
	}
	return a.N*b.D < b.N*a.D, OK
}

func FracText(f Frac) (string, int) {
	if !FracOK(f) {
		return "", ErrBad
	}
	text := strconv.Itoa(f.N)
	if f.D > 1 {
		text += "/" + strconv.Itoa(f.D)
	}
	return text, OK
}

// ReadFrac reads more than is allowed (signs, noughts ahead) and then asks
// whether the fraction would be told so: that alone is what the grammar is.
func ReadFrac(t string) (Frac, int) {
	if len(t) > MaxText {
		return Frac{}, ErrLong
	}
	top, bottom, parted := strings.Cut(t, "/")
	if !parted {
		bottom = "1"
	}
	n, topFault := strconv.Atoi(top)
	d, bottomFault := strconv.Atoi(bottom)
	if topFault != nil || bottomFault != nil {
		return Frac{}, ErrSyntax
	}
	f := Frac{N: n, D: d}
	told, code := FracText(f)
	if code != OK || told != t {
		return Frac{}, ErrSyntax
	}
	return f, OK
}

type rounding struct {
	mode int
	way  func(Frac) int
}

func FracRound(f Frac, mode int) (int, int) {
	if !FracOK(f) {
		return 0, ErrBad
	}
	for _, r := range roundings() {
		if r.mode == mode {
			return r.way(f), OK
		}
	}
	return 0, ErrKind
}

func roundings() [3]rounding {
	return [3]rounding{
		{mode: RdDown, way: roundDown},
		{mode: RdUp, way: roundUp},
		{mode: RdEven, way: roundEven},
	}
}

// A division rounds towards zero, which is up where there is a rest below 0.
func roundDown(f Frac) int {
	whole := f.N / f.D
	if f.N%f.D < 0 {
		whole--
	}
	return whole
}

func roundUp(f Frac) int {
	return -roundDown(Frac{N: -f.N, D: +f.D})
}

func roundEven(f Frac) int {
	low := roundDown(f)
	rest := f.N - low*f.D
	if 2*rest > f.D || 2*rest == f.D && low%2 != 0 {
		return low + 1
	}
	return low
}
