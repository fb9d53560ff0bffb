package tests

import (
	"math"
	"math/cmplx"
	"math/rand"
	"slices"
	"testing"

	"loop.example/g00056/impl"
)

func TestVibrationLimits(t *testing.T) {
	if impl.MaxMasses != 20 || impl.MaxSamples != 1000 {
		t.Error("limits", impl.MaxMasses, impl.MaxSamples)
	}
}

// checkSway holds Sway against the words of the chapter, bit for bit.
func checkSway(t *testing.T, masses []impl.Mass, pulse float64) ([]impl.Tone, int) {
	t.Helper()
	want, wantCode := teller{}.sway(masses, pulse)
	got, code := impl.Sway(masses, pulse)
	if code != wantCode || !sameTones(got, want) {
		t.Fatal("Sway", short(masses), pulse, got, code, "not", want, wantCode)
	}
	return got, code
}

// checkSwayTold: masses and sways that are worked out by hand.
func checkSwayTold(t *testing.T, masses []impl.Mass, pulse float64, want ...impl.Tone) {
	t.Helper()
	if got, code := impl.Sway(masses, pulse); code != impl.OK || !sameTones(got, want) {
		t.Error("Sway", masses, pulse, got, code, "not", want)
	}
	checkSway(t, masses, pulse)
}

// checkNoSway: that code, and nothing with it.
func checkNoSway(t *testing.T, masses []impl.Mass, pulse float64, code int) {
	t.Helper()
	if got, gotCode := impl.Sway(masses, pulse); len(got) != 0 || gotCode != code {
		t.Error("Sway", short(masses), pulse, got, gotCode, "not", code)
	}
}

func TestSwaysOfOneMassTold(t *testing.T) {
	for _, pulse := range []float64{0, minusZero} {
		for _, c := range []float64{0, minusZero, 3, mostHeld} {
			checkSwayTold(t, []impl.Mass{mass(1, c, 2)}, pulse, tone(0.5, 0))
			checkSwayTold(t, []impl.Mass{mass(mostHeld, c, 4)}, pulse, tone(0.25, 0))
			checkSwayTold(t, []impl.Mass{mass(leastHeld, c, 0.125)}, pulse, tone(8, 0))
		}
	}
	// {3 - 1, 2}, {7 - 3, 0}, {20 - 12, 6}
	checkSwayTold(t, []impl.Mass{mass(1, 2, 3)}, 1, tone(0.25, -0.25))
	checkSwayTold(t, []impl.Mass{mass(3, 0, 7)}, 1, tone(0.25, 0))
	checkSwayTold(t, []impl.Mass{mass(3, 3, 20)}, 2, tone(0.08, -0.06))
	// at its own pulse the damper alone holds it: {16 - 16, 8}
	checkSwayTold(t, []impl.Mass{mass(4, 4, 16)}, 2, tone(0, -0.125))
	// above its own pulse it sways the other way, and what is nought in it has the
	// sign of 0 (-8) - 1 0: {8 - 16, 0}, {8 - 16, 6}
	checkSwayTold(t, []impl.Mass{mass(4, 0, 8)}, 2, tone(-0.125, minusZero))
	checkSwayTold(t, []impl.Mass{mass(4, minusZero, 8)}, 2, tone(-0.125, minusZero))
	checkSwayTold(t, []impl.Mass{mass(4, 3, 8)}, 2, tone(-0.08, -0.06))
}

func TestSwaysOfSeveralMassesTold(t *testing.T) {
	// d is 2, then 2 2 by 4, then 1 1 by 2
	checkSwayTold(t, []impl.Mass{mass(1, 0, 2), mass(7, 3, 2), mass(5, 1, 1)}, 0, tone(0.5, 0), tone(1, 0), tone(2, 0))
	// d is 2 - 1, then 3 1 by 4 and -1
	checkSwayTold(t, []impl.Mass{mass(1, 0, 2), mass(1, 0, 3)}, 1, tone(-3, 0), tone(-4, minusZero))
	// d is 5 - 1, then 4 4 by 8 and -1, then 1 1 by 2 and -0.25
	checkSwayTold(t, []impl.Mass{mass(1, 0, 5), mass(1, 0, 4), mass(0.25, 0, 1)}, 1, tone(1, 0), tone(2, 0), tone(4, 0))
	// d is {4 - 4, 2}; {0, 2} {2, 0} by {2, 2} is {1, 1}, less 4; {1, 0} by {-3, 1}
	// is {-0.3, -0.1}, and {-0.6, -0.2} by {2, 2} is {-0.2, 0.1}
	want := []impl.Tone{tone(-0.2, 0.1), tone(-0.3, -0.1)}
	masses := []impl.Mass{mass(1, 1, 4), mass(1, 0, 2)}
	got, code := impl.Sway(masses, 2)
	for i := range want {
		if code != impl.OK || len(got) != 2 || !nearTones(got[i], want[i], 1e-15) {
			t.Error("Sway", masses, got, code, "not", want)
		}
	}
	checkSway(t, masses, 2)
}

func nearTones(a, b impl.Tone, far float64) bool {
	return math.Abs(a.Re-b.Re) <= far && math.Abs(a.Im-b.Im) <= far
}

// Springs of which each gives as much as all ahead of it together: all numbers
// on the way are powers of two, as many masses as there are.
func TestSlowSwaysByHalves(t *testing.T) {
	stiff, masses, want := math.Ldexp(1, 19), []impl.Mass{mass(9, 0, math.Ldexp(1, 19))}, []impl.Tone{tone(math.Ldexp(1, -19), 0)}
	for len(masses) <= impl.MaxMasses {
		for _, pulse := range []float64{0, minusZero} {
			checkSwayTold(t, masses, pulse, want...)
		}
		masses = append(masses, mass(3, 5, stiff))
		want = append(want, tone(2*want[len(want)-1].Re, 0))
		stiff /= 2
		if len(masses) == impl.MaxMasses+1 {
			checkNoSway(t, masses, 0, impl.ErrBad)
		}
	}
}

// Whatever the masses weigh and the dampers hold: at the pulse 0 each sways by
// the sum of what the springs up to it give, without a turn.
func TestSlowSwaysAreOfSpringsAlone(t *testing.T) {
	draw := rand.New(rand.NewSource(181))
	drawnSwings(draw, 400, func(masses []impl.Mass, _ float64) {
		for _, pulse := range []float64{0, minusZero} {
			sways, code := checkSway(t, masses, pulse)
			sum := 0.0
			for i, m := range masses {
				sum += 1 / m.K
				if code != impl.OK || math.Abs(sways[i].Re-sum) > 1e-13*sum || sways[i].Im != 0 {
					t.Fatal("Sway", masses, pulse, sways, code, "mass", i, "not", sum)
				}
			}
			others := slices.Clone(masses)
			for i := range others {
				others[i].M, others[i].C = drawnPower(draw, -2, 5), drawnPower(draw, -2, 5)
			}
			if again, _ := impl.Sway(others, pulse); !sameTones(again, sways) {
				t.Fatal("Sway", masses, sways, "but", others, again)
			}
		}
	})
}

// At a d of just nought nothing holds the last mass.
func TestSwaysWithoutEnd(t *testing.T) {
	for _, c := range []struct {
		masses []impl.Mass
		pulse  float64
		code   int
	}{
		{[]impl.Mass{mass(2, 0, 8)}, 2, impl.ErrZero},
		{[]impl.Mass{mass(2, minusZero, 8)}, 2, impl.ErrZero},
		{[]impl.Mass{mass(1, 0, 1)}, 1, impl.ErrZero},
		{[]impl.Mass{mass(leastHeld, 0, leastHeld)}, 1, impl.ErrZero},
		{[]impl.Mass{mass(mostHeld, 0, mostHeld)}, 1, impl.ErrZero},
		{[]impl.Mass{mass(1, 0, mostHeld)}, 1000, impl.ErrZero},
		{[]impl.Mass{mass(1, 0, 3), mass(1, 0, 2)}, 1, impl.ErrZero},                  // d is 2, then 2 2 by 4 less 1
		{[]impl.Mass{mass(1, 0, 5), mass(1, 0, 4), mass(0.5, 0, 1)}, 1, impl.ErrZero}, // 4, then 1, then 1 by 2 less 0.5
		{[]impl.Mass{mass(4, 0, 1), mass(3, 0, 1.5)}, 1, impl.ErrZero},                // -3, then -4.5 by -1.5 less 3
		{[]impl.Mass{mass(1, tiniest, 4)}, 2, impl.OK},                                // the least damper holds it a little
		{[]impl.Mass{mass(1, tiniest, 1)}, 1, impl.OK},
		{[]impl.Mass{mass(4, tiniest, 1)}, 0.5, impl.ErrZero},                 // half of the least number is rounded to 0
		{[]impl.Mass{mass(0.1, 0, 0.0010000000000000002)}, 0.1, impl.ErrZero}, // by one rounding in place of two it would not be 0
		{[]impl.Mass{mass(2, 0, math.Nextafter(8, 9))}, 2, impl.OK},
		{[]impl.Mass{mass(2, 0, math.Nextafter(8, 7))}, 2, impl.OK},
	} {
		if _, code := checkSway(t, c.masses, c.pulse); code != c.code {
			t.Error("Sway", c.masses, c.pulse, code, "not", c.code)
		}
		if c.code != impl.OK {
			checkNoSway(t, c.masses, c.pulse, c.code)
		}
	}
	// a d of nought ahead of the last one is none: d is 0, then 1 0 by 1, less 1
	checkSwayTold(t, []impl.Mass{mass(1, 0, 1), mass(1, 0, 1)}, 1, tone(-1, 0), tone(-1, minusZero))
}

// Where d(i - 1) + l(i) is nought its quotient is, and the mass ahead does not
// sway; those ahead of that one neither.
func TestQuotientsByNothing(t *testing.T) {
	// d is 2 - 4, and -2 + 2 is nought; so d is -8
	checkSwayTold(t, []impl.Mass{mass(1, 0, 2), mass(2, 0, 2)}, 2, tone(0, 0), tone(-0.125, minusZero))
	checkSwayTold(t, []impl.Mass{mass(1, minusZero, 2), mass(2, minusZero, 2)}, 2, tone(0, 0), tone(-0.125, minusZero))
	// d is -8 again, then -8 8 by nought, less 4; then 4 (-4) by nought, less 16
	checkSwayTold(t, []impl.Mass{mass(1, 0, 2), mass(2, 0, 2), mass(1, 0, 8)}, 2, tone(0, 0), tone(0, 0), tone(-0.25, minusZero))
	checkSwayTold(t, []impl.Mass{mass(1, 0, 2), mass(2, 0, 2), mass(1, 0, 8), mass(4, 0, 4)}, 2, tone(0, 0), tone(0, 0), tone(0, 0), tone(-0.0625, minusZero))
	// in the middle: d is 4, then 4 4 by 8 less 5, and -3 + 3 is nought; so d is -2,
	// then 2.5 (-2) by 0.5 less 0.5
	masses := []impl.Mass{mass(1, 0, 5), mass(5, 0, 4), mass(2, 0, 3), mass(0.5, 0, 2.5)}
	sways, code := checkSway(t, masses, 1)
	if code != impl.OK || !isNought(sways[0]) || !sameTone(sways[1], tone(0, 0)) || !nearTones(sways[2], tone(-5/10.5, 0), 1e-15) || !nearTones(sways[3], tone(-1/10.5, 0), 1e-15) {
		t.Error("Sway", masses, sways, code)
	}
	// a damper too small for its square: n is nought, but the tone is not
	for _, c := range []float64{tiniest, 1e-300, 1e-170} {
		sways, code := checkSway(t, []impl.Mass{mass(1, c, 4)}, 2)
		if code != impl.OK || !math.IsNaN(sways[0].Re) || !math.IsInf(sways[0].Im, -1) {
			t.Error("Sway by a tone of which n is nought", c, sways, code)
		}
		checkSway(t, []impl.Mass{mass(1, c, 2), mass(2, c, 2)}, 2)
		checkSway(t, []impl.Mass{mass(1, c, 2), mass(2, 0, 2), mass(1, 1, 1)}, 2)
	}
}

func TestSwaysOfDrawnMasses(t *testing.T) {
	draw := rand.New(rand.NewSource(182))
	codes, seen := map[int]int{}, map[string]int{}
	drawnSwings(draw, 800, func(masses []impl.Mass, pulse float64) {
		sways, code := checkSway(t, masses, pulse)
		codes[code]++
		for _, s := range sways {
			seen["Re "+kindOf(s.Re)]++
			seen["Im "+kindOf(s.Im)]++
		}
	})
	if codes[impl.OK] < 3000 || codes[impl.ErrZero] < 30 {
		t.Error("codes", codes)
	}
	for _, part := range []string{"Re ", "Im "} {
		for _, kind := range []string{"0", "-0", "not a number", "ordinary"} {
			if seen[part+kind] < 10 {
				t.Error("seen", seen)
			}
		}
	}
	if seen["Re endless"]+seen["Im endless"] < 10 {
		t.Error("seen", seen)
	}
}

func kindOf(x float64) string {
	switch {
	case x == 0 && math.Signbit(x):
		return "-0"
	case x == 0:
		return "0"
	case math.IsNaN(x):
		return "not a number"
	case math.IsInf(x, 0):
		return "endless"
	}
	return "ordinary"
}

// All near masses that are whole numbers.
func TestSwaysOfAllNearMasses(t *testing.T) {
	var near []impl.Mass
	for _, m := range []float64{1, 2, 3} {
		for _, c := range []float64{0, 1} {
			for _, k := range []float64{1, 2, 3, 4} {
				near = append(near, mass(m, c, k))
			}
		}
	}
	codes, byNothing := map[int]int{}, 0
	for _, pulse := range []float64{0, 1, 2} {
		for _, first := range near {
			_, code := checkSway(t, []impl.Mass{first}, pulse)
			codes[code]++
			for _, second := range near {
				sways, code := checkSway(t, []impl.Mass{first, second}, pulse)
				codes[code]++
				if code == impl.OK && isNought(sways[0]) {
					byNothing++
				}
			}
		}
	}
	if codes[impl.OK] < 1500 || codes[impl.ErrZero] < 10 || byNothing < 20 {
		t.Error("codes", codes, "by nothing", byNothing)
	}
}

var swaySlips = []string{
	"Re of a product, first in one", "Re of a product, second in one", "Im of a product, first in one", "Im of a product, second in one",
	"n, first in one", "n, second in one",
	"Re of a quotient, first in one", "Re of a quotient, second in one", "Im of a quotient, first in one", "Im of a quotient, second in one",
	"the language's quotient", "one by n", "n of 0 gives 0", "product by the mirror", "d by nought", "sway by nought", "w times M first", "weight in one",
}

// Each way of rounding once where twice is told, and each other slip, shows among
// the drawn masses, so that TestSwaysOfDrawnMasses would find it.
func TestSwaysWouldShowSlips(t *testing.T) {
	draw := rand.New(rand.NewSource(183))
	shown := map[string]int{}
	drawnSwings(draw, 150, func(masses []impl.Mass, pulse float64) {
		sways, code := impl.Sway(masses, pulse)
		for _, slip := range swaySlips {
			other, otherCode := teller{slip}.sway(masses, pulse)
			if otherCode != code || !sameTones(other, sways) {
				shown[slip]++
			}
		}
	})
	for _, slip := range swaySlips {
		if shown[slip] < 5 {
			t.Error("too few would show", slip, shown)
		}
	}
}

// What holds each mass: its own share, its link and the next one's, less what the
// links bring from the masses beside it, come to the push, as far as rounding lets
// them; 1 of the last mass, 0 of the others.
func TestSwaysHoldThePush(t *testing.T) {
	draw := rand.New(rand.NewSource(184))
	for range 2000 {
		count, pulse := 1+draw.Intn(20), drawnPower(draw, -2, 2)
		var masses []impl.Mass
		for range count {
			masses = append(masses, mass(drawnPower(draw, -1, 1), drawnPower(draw, 0, 1), drawnPower(draw, -1, 2)))
		}
		sways, code := impl.Sway(masses, pulse)
		if code != impl.OK {
			t.Fatal("Sway", masses, pulse, code)
		}
		link := func(i int) complex128 { return complex(masses[i].K, pulse*masses[i].C) }
		sway := func(i int) complex128 { return complex(sways[i].Re, sways[i].Im) }
		for i, m := range masses {
			held := (complex(-pulse*pulse*m.M, 0) + link(i)) * sway(i)
			most := cmplx.Abs(held)
			if i > 0 {
				held -= link(i) * sway(i-1)
			}
			if i < count-1 {
				held += link(i+1) * (sway(i) - sway(i+1))
			} else {
				held--
			}
			most = max(most, cmplx.Abs(link(i)*sway(i)), 1e-30)
			if cmplx.Abs(held) > 1e-10*most {
				t.Fatal("Sway", masses, pulse, sways, "mass", i, "is left", held, "of", most)
			}
		}
	}
}

// Heavy masses on weak springs at the greatest pulse: what is left of the push
// at the first one comes to nothing.
func TestSwaysThatFadeAway(t *testing.T) {
	for _, c := range []float64{0, minusZero, 1, mostHeld} {
		heavy := slices.Repeat([]impl.Mass{mass(mostHeld, c, leastHeld)}, impl.MaxMasses)
		sways, code := checkSway(t, heavy, mostHeld)
		if code != impl.OK || sways[19].Re >= 0 || c < 1 && !isNought(sways[0]) {
			t.Error("Sway", c, sways, code)
		}
	}
}

func TestMassesByHowMany(t *testing.T) {
	for count := range 30 {
		masses := slices.Repeat([]impl.Mass{mass(1, 1, 1)}, count)
		if count >= 1 && count <= 20 {
			if sways, code := checkSway(t, masses, 1); len(sways) != count || code != impl.OK {
				t.Error("Sway", count, sways, code)
			}
		} else {
			checkNoSway(t, masses, 1, impl.ErrBad)
		}
	}
	checkNoSway(t, nil, 1, impl.ErrBad)
	checkNoSway(t, []impl.Mass{}, 1, impl.ErrBad)
	// too long a list comes ahead of all, whatever is wrong besides
	for _, one := range []impl.Mass{mass(1, 1, 1), mass(1, 0, 1), {}, mass(noNumber, -1, endless)} {
		for _, pulse := range []float64{1, -1, noNumber, endless} {
			for _, c := range []struct{ count, code int }{{21, impl.ErrBad}, {1000, impl.ErrBad}, {impl.MaxList, impl.ErrBad}, {impl.MaxList + 1, impl.ErrLong}, {2 * impl.MaxList, impl.ErrLong}} {
				checkNoSway(t, slices.Repeat([]impl.Mass{one}, c.count), pulse, c.code)
			}
		}
	}
}

// edgeSizes are at, just within and just beyond each bound of this chapter.
var edgeSizes = []float64{
	noNumber, -endless, -math.MaxFloat64, -1000001, math.Nextafter(-mostHeld, -endless), -mostHeld, math.Nextafter(-mostHeld, 0), -1, -leastHeld, -tiniest, minusZero,
	0, tiniest, 0.0009, math.Nextafter(leastHeld, 0), leastHeld, math.Nextafter(leastHeld, 1), 0.0011,
	1, 999999, math.Nextafter(mostHeld, 0), mostHeld, math.Nextafter(mostHeld, endless), 1000001, 1e300, math.MaxFloat64, endless,
}

func checkSwayBounds(t *testing.T, masses []impl.Mass, pulse float64, right bool) {
	t.Helper()
	if !right {
		checkNoSway(t, masses, pulse, impl.ErrBad)
	} else if _, code := checkSway(t, masses, pulse); code != impl.OK {
		t.Error("Sway", masses, pulse, code)
	}
}

func TestMassesAndPulsesByTheirBounds(t *testing.T) {
	for _, count := range []int{1, 2, 3, 20} {
		usual := slices.Repeat([]impl.Mass{mass(1, 2, 3)}, count)
		for _, x := range edgeSizes {
			checkSwayBounds(t, usual, x, x >= 0 && x <= 1000000)
			for at := range count {
				other := usual[at]
				usual[at].M = x
				checkSwayBounds(t, usual, 1, x >= 0.001 && x <= 1000000)
				usual[at] = other
				usual[at].C = x
				checkSwayBounds(t, usual, 1, x >= 0 && x <= 1000000)
				usual[at] = other
				usual[at].K = x
				checkSwayBounds(t, usual, 1, x >= 0.001 && x <= 1000000)
				usual[at] = other
			}
		}
	}
	// all at their least and greatest together
	for _, m := range []float64{leastHeld, mostHeld} {
		for _, c := range []float64{0, mostHeld} {
			for _, k := range []float64{leastHeld, mostHeld} {
				for _, pulse := range []float64{0, minusZero, tiniest, mostHeld} {
					checkSwayBounds(t, slices.Repeat([]impl.Mass{mass(m, c, k)}, 20), pulse, true)
				}
			}
		}
	}
}

// A wrong mass or pulse is told where the last d would be nought, too.
func TestCodesOfSwayByTheirOrder(t *testing.T) {
	free := []impl.Mass{mass(1, 0, 3), mass(1, 0, 2)}
	checkNoSway(t, free, 1, impl.ErrZero)
	checkNoSway(t, free, -1, impl.ErrBad)
	checkNoSway(t, append(slices.Clone(free), impl.Mass{}), 1, impl.ErrBad)
	checkNoSway(t, []impl.Mass{mass(1, -1, 1)}, 1, impl.ErrBad)
	checkNoSway(t, []impl.Mass{mass(0.0005, 0, 0.0005)}, 1, impl.ErrBad)
	checkNoSway(t, []impl.Mass{mass(1000001, 0, 1000001)}, 1, impl.ErrBad)
}
