package tests

import (
	"math"
	"math/rand"
	"slices"
	"testing"

	"loop.example/g00056/impl"
)

var (
	minusZero32 = float32(minusZero)
	tiniest32   = float32(math.SmallestNonzeroFloat32)
)

// checkCalm holds right numbers, calmed, against the words of the chapter, bit
// for bit.
func checkCalm(t *testing.T, x []float64, share float32) []float32 {
	t.Helper()
	want := teller{}.calm(x, share)
	calmed, code := impl.Calm(x, share)
	if code != impl.OK || !slices.EqualFunc(calmed, want, sameNumber[float32]) {
		t.Fatal("Calm", short(x), share, short(calmed), code, "not", short(want))
	}
	return calmed
}

func checkNotCalmed(t *testing.T, x []float64, share float32, code int) {
	t.Helper()
	if calmed, got := impl.Calm(x, share); len(calmed) != 0 || got != code {
		t.Error("Calm", short(x), share, short(calmed), got, "not", code)
	}
}

func checkCalmTold(t *testing.T, x []float64, share float32, want ...float32) {
	t.Helper()
	if calmed, code := impl.Calm(x, share); code != impl.OK || !slices.EqualFunc(calmed, want, sameNumber[float32]) {
		t.Error("Calm", x, share, calmed, code, "not", want)
	}
	checkCalm(t, x, share)
}

func TestCalmedTold(t *testing.T) {
	for _, share := range []float32{0, minusZero32, 0.5, 1} {
		checkCalmTold(t, nil, share)
		checkCalmTold(t, []float64{}, share)
		checkCalmTold(t, []float64{7}, share, 7)
		checkCalmTold(t, []float64{5, 5, 5, 5}, share, 5, 5, 5, 5)
	}
	checkCalmTold(t, []float64{8, 0, 4}, 0.5, 8, 4, 4)
	checkCalmTold(t, []float64{8, 0, 0, 0, 0}, 0.5, 8, 4, 2, 1, 0.5)
	checkCalmTold(t, []float64{0, 16, 16, 16}, 0.25, 0, 4, 7, 9.25)
	checkCalmTold(t, []float64{0, 16, -16, 8}, 0.75, 0, 12, -9, 3.75)
	checkCalmTold(t, []float64{-4, 4, 4, -4}, 0.25, -4, -2, -0.5, -1.375)
	checkCalmTold(t, []float64{3, -2, 9, 0.5}, 0, 3, 3, 3, 3)
	checkCalmTold(t, []float64{3, -2, 9, 0.5}, 1, 3, -2, 9, 0.5)
	checkCalmTold(t, []float64{mostHeld, -mostHeld, mostHeld}, 0.5, mostHeld, 0, 500000)
}

func TestCalmedRounds(t *testing.T) {
	// numbers that are others in float32
	for _, number := range []float64{0.1, 1.0 / 3, 999999.97, -999999.97, 123456.789, 0.7071067811865476, 1e-40, -1e-42, 1 + 1e-8, 1 - 1e-9} {
		checkCalmTold(t, []float64{number}, 0.5, float32(number))
		checkCalmTold(t, []float64{number, number}, 1, float32(number), float32(number))
	}
	checkCalmTold(t, []float64{999999.97}, 0, 1000000)
	checkCalmTold(t, []float64{16777217.0 / 32}, 0, 524288) // a middle goes to the even one
	checkCalmTold(t, []float64{16777219.0 / 32}, 0, 524288.125)
	checkCalmTold(t, []float64{tiniest}, 0.5, 0)
	checkCalmTold(t, []float64{-tiniest}, 0.5, minusZero32)
	checkCalmTold(t, []float64{float64(tiniest32) / 2}, 0.5, 0)
	checkCalmTold(t, []float64{float64(tiniest32) * 0.75}, 0.5, tiniest32)
	// x is rounded ahead of the difference: 0.1 less 0.1 is 0
	checkCalmTold(t, []float64{0.1, float64(float32(0.1))}, 1, 0.1, 0.1)
	// a difference that is rounded: -999999.875, so that even the whole of it is
	// not x again
	checkCalmTold(t, []float64{mostHeld, 0.1}, 1, mostHeld, 0.125)
	// one rounding in place of two would be -1.4901161e-08 and 1.1
	checkCalmTold(t, []float64{1, -9}, 0.1, 1, 0)
	checkCalmTold(t, []float64{2, -7}, 0.1, 2, 1.0999999)
	// a share of the least difference goes to the even one
	checkCalmTold(t, []float64{0, float64(tiniest32)}, 0.5, 0, 0)
	checkCalmTold(t, []float64{0, 3 * float64(tiniest32)}, 0.5, 0, 2*tiniest32)
}

func TestCalmedNoughts(t *testing.T) {
	for _, share := range []float32{0, minusZero32, 0.5, 1} {
		checkCalmTold(t, []float64{0}, share, 0)
		checkCalmTold(t, []float64{minusZero}, share, minusZero32)
		checkCalmTold(t, []float64{0, minusZero}, share, 0, 0)
	}
	checkCalmTold(t, []float64{minusZero, minusZero}, 0, minusZero32, 0) // -0 + 0 (-0 - -0)
	checkCalmTold(t, []float64{minusZero, minusZero}, 1, minusZero32, 0)
	checkCalmTold(t, []float64{minusZero, 0}, 0.5, minusZero32, 0)
	checkCalmTold(t, []float64{minusZero, -5}, 0, minusZero32, minusZero32) // -0 + 0 (-5 - -0)
	checkCalmTold(t, []float64{minusZero, 5}, 0, minusZero32, 0)
	checkCalmTold(t, []float64{minusZero, 5, minusZero}, minusZero32, minusZero32, minusZero32, minusZero32)
	checkCalmTold(t, []float64{minusZero, -5}, minusZero32, minusZero32, 0)
	checkCalmTold(t, []float64{5, -5, -5}, 0.5, 5, 0, -2.5)
	checkCalmTold(t, []float64{5, minusZero}, 1, 5, 0)
	checkCalmTold(t, []float64{minusZero, -tiniest, 1}, 0, minusZero32, 0, 0)
}

var rightShares = []float32{0, minusZero32, tiniest32, 1e-20, 0.001, 0.1, 0.25, 1.0 / 3, 0.5, 0.7, 0.999, math.Nextafter32(1, 0), 1}

func TestCalmedDrawnNumbers(t *testing.T) {
	draw := rand.New(rand.NewSource(187))
	for range 600 {
		x := drawnNumbers(draw, draw.Intn(30))
		for _, share := range append(rightShares, draw.Float32()) {
			checkCalm(t, x, share)
		}
	}
	for range 3 {
		for _, count := range []int{999, 1000} {
			checkCalm(t, drawnNumbers(draw, count), draw.Float32())
		}
	}
}

func TestCalmedWouldShowSlips(t *testing.T) {
	draw := rand.New(rand.NewSource(188))
	slips, shown := []string{"in one", "in float64", "x as it is", "two shares"}, map[string]int{}
	for range 300 {
		x, share := drawnNumbers(draw, 10), draw.Float32()
		calmed, _ := impl.Calm(x, share)
		for _, slip := range slips {
			if !slices.EqualFunc(calmed, teller{slip}.calm(x, share), sameNumber[float32]) {
				shown[slip]++
			}
		}
	}
	for _, slip := range slips {
		if shown[slip] < 50 {
			t.Error("too few would show", slip, shown)
		}
	}
}

// checkBetween: none is beyond the least and the greatest of the numbers that came
// up to it, by more than far.
func checkBetween(t *testing.T, x []float64, share float32, far float64) {
	t.Helper()
	low, high := math.Inf(1), math.Inf(-1)
	for i, y := range checkCalm(t, x, share) {
		low, high = min(low, x[i]), max(high, x[i])
		if float64(y) < low-far || float64(y) > high+far {
			t.Fatal("Calm", x, share, "number", i, y, "is beyond", low, high)
		}
	}
}

func TestCalmedIsNotBeyondWhatCame(t *testing.T) {
	draw := rand.New(rand.NewSource(189))
	for range 3000 {
		// small whole numbers and eighths, of which all can be told exactly
		var x []float64
		for range 6 {
			x = append(x, float64(draw.Intn(63)-31))
		}
		checkBetween(t, x, float32(draw.Intn(9))/8, 0)
		// any others, as far as rounding lets them
		x = drawnNumbers(draw, 1+draw.Intn(20))
		checkBetween(t, x, draw.Float32(), greatestSize(x)*0x1p-22+0x1p-149)
	}
}

func TestCalmedByHowMany(t *testing.T) {
	for _, c := range []struct{ count, code int }{
		{0, impl.OK}, {1, impl.OK}, {2, impl.OK}, {999, impl.OK}, {1000, impl.OK}, {1001, impl.ErrBad}, {1002, impl.ErrBad}, {impl.MaxList, impl.ErrBad}, {impl.MaxList + 1, impl.ErrLong}, {2 * impl.MaxList, impl.ErrLong},
	} {
		x := slices.Repeat([]float64{4}, c.count)
		if c.code == impl.OK {
			if calmed := checkCalm(t, x, 0.5); len(calmed) != c.count {
				t.Error("Calm", c.count, len(calmed))
			}
		} else {
			checkNotCalmed(t, x, 0.5, c.code)
		}
		// too long a list comes ahead of all, whatever is wrong besides
		for _, share := range []float32{-1, 2, float32(noNumber)} {
			checkNotCalmed(t, x, share, max(impl.ErrBad, c.code))
			checkNotCalmed(t, slices.Repeat([]float64{noNumber}, c.count), share, max(impl.ErrBad, c.code))
		}
	}
}

func TestCalmedByTheirBounds(t *testing.T) {
	for _, number := range edgeSizes {
		for _, count := range []int{1, 2, 5} {
			for at := range count {
				x := slices.Repeat([]float64{3}, count)
				x[at] = number
				for _, share := range []float32{0, 0.3, 1} {
					if number >= -1000000 && number <= 1000000 {
						checkCalm(t, x, share)
					} else {
						checkNotCalmed(t, x, share, impl.ErrBad)
					}
				}
			}
		}
	}
	for _, x := range [][]float64{nil, {1}, {1, 2}} {
		for _, share := range rightShares {
			checkCalm(t, x, share)
		}
		for _, share := range []float32{
			-tiniest32, math.Nextafter32(1, 2), -0.5, 1.5, -1, 2, 1000000, math.MaxFloat32, -math.MaxFloat32, float32(endless), float32(-endless), float32(noNumber),
		} {
			checkNotCalmed(t, x, share, impl.ErrBad)
		}
	}
}
