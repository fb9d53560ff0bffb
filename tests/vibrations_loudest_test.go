package tests

import (
	"fmt"
	"math"
	"math/rand"
	"slices"
	"testing"

	"loop.example/g00056/impl"
)

// checkLoudest holds Loudest against all pulses one by one, bit for bit.
func checkLoudest(t *testing.T, masses []impl.Mass, pulses []float64) (int, float64, int) {
	t.Helper()
	want, wantMost, wantCode := teller{}.loudest(masses, pulses)
	number, most, code := impl.Loudest(masses, pulses)
	if number != want || !sameNumber(most, wantMost) || code != wantCode {
		t.Fatal("Loudest", short(masses), short(pulses), number, most, code, "not", want, wantMost, wantCode)
	}
	return number, most, code
}

func checkLoudestTold(t *testing.T, masses []impl.Mass, pulses []float64, number int, most float64) {
	t.Helper()
	if got, gotMost, code := impl.Loudest(masses, pulses); got != number || !sameNumber(gotMost, most) || code != impl.OK {
		t.Error("Loudest", masses, pulses, got, gotMost, code, "not", number, most)
	}
	checkLoudest(t, masses, pulses)
}

// checkNotLoud: that code, and nothing with it.
func checkNotLoud(t *testing.T, masses []impl.Mass, pulses []float64, code int) {
	t.Helper()
	if number, most, got := impl.Loudest(masses, pulses); number != 0 || !sameNumber(most, 0) || got != code {
		t.Error("Loudest", short(masses), short(pulses), number, most, got, "not", code)
	}
}

func TestLoudestTold(t *testing.T) {
	damped := []impl.Mass{mass(1, 1, 4)} // {4 - w w, w}
	checkLoudestTold(t, damped, []float64{0}, 0, 0.0625)
	checkLoudestTold(t, damped, []float64{2}, 0, 0.25)
	checkLoudestTold(t, damped, []float64{0, 2}, 1, 0.25)
	checkLoudestTold(t, damped, []float64{2, 0}, 0, 0.25)
	checkLoudestTold(t, damped, []float64{0, 1, 2, 2, 3}, 2, 0.25)
	checkLoudestTold(t, damped, []float64{3, 1, 0, 4, 2}, 4, 0.25)
	checkLoudestTold(t, damped, []float64{4, 0, mostHeld}, 1, 0.0625)
	// at 1 it sways by {0.3, -0.1}: one rounding in place of two would be a little
	// less than 0.1
	checkLoudestTold(t, damped, []float64{1}, 0, 0.1)
	// of several masses the last one counts: at 0 it sways by 3, at 1 by -1
	three := []impl.Mass{mass(1, 0, 1), mass(1, 0, 1), mass(1, 0, 1)}
	checkLoudestTold(t, three, []float64{1, 0}, 1, 9)
	checkLoudestTold(t, []impl.Mass{mass(1, 0, 2), mass(1, 0, 3)}, []float64{0, 1, 2}, 1, 16)
	// at 2 the masses sway by -1/2 and -1/4, at 0 by 1/3 and 5/6
	number, most, code := checkLoudest(t, []impl.Mass{mass(1, 0, 3), mass(0.5, 0, 2)}, []float64{2, 0})
	if number != 1 || math.Abs(most-25.0/36) > 1e-15 || code != impl.OK {
		t.Error("Loudest", number, most, code)
	}
}

func TestLoudestOfAlikePulses(t *testing.T) {
	// {5 - 1} and {5 - 9} are as loud
	masses := []impl.Mass{mass(1, 0, 5)}
	checkLoudestTold(t, masses, []float64{1, 3}, 0, 0.0625)
	checkLoudestTold(t, masses, []float64{3, 1}, 0, 0.0625)
	checkLoudestTold(t, masses, []float64{0, 3, 1, 3, 0}, 1, 0.0625)
	checkLoudestTold(t, masses, []float64{0, 1, 3, 1, 0}, 1, 0.0625)
	still := []impl.Mass{mass(1, 0, 2)}
	checkLoudestTold(t, still, []float64{minusZero, 0}, 0, 0.25)
	checkLoudestTold(t, still, []float64{0, minusZero, 0}, 0, 0.25)
	checkLoudestTold(t, still, []float64{3, minusZero, 0}, 1, 0.25)
	checkLoudestTold(t, still, slices.Repeat([]float64{0}, 1000), 0, 0.25)
}

func TestLoudestOfPulsesByHowMany(t *testing.T) {
	masses := []impl.Mass{mass(1, 1, 4)}
	for _, count := range []int{1, 2, 3, 999, 1000} {
		for _, at := range []int{0, count / 2, count - 1} {
			pulses := slices.Repeat([]float64{1}, count)
			pulses[at] = 2
			checkLoudestTold(t, masses, pulses, at, 0.25)
		}
	}
	checkNotLoud(t, masses, nil, impl.ErrBad)
	checkNotLoud(t, masses, []float64{}, impl.ErrBad)
	for _, one := range []float64{1, 2, -1, noNumber} {
		for _, c := range []struct{ count, code int }{{1001, impl.ErrBad}, {1002, impl.ErrBad}, {impl.MaxList, impl.ErrBad}, {impl.MaxList + 1, impl.ErrLong}, {2 * impl.MaxList, impl.ErrLong}} {
			checkNotLoud(t, masses, slices.Repeat([]float64{one}, c.count), c.code)
			// ahead of Sway's ErrZero of them, and of wrong masses
			checkNotLoud(t, []impl.Mass{mass(1, 0, 1)}, slices.Repeat([]float64{one}, c.count), c.code)
			checkNotLoud(t, nil, slices.Repeat([]float64{one}, c.count), c.code)
		}
	}
}

func TestLoudestOfMassesByHowMany(t *testing.T) {
	for _, c := range []struct{ count, code int }{
		{0, impl.ErrBad}, {1, impl.OK}, {20, impl.OK}, {21, impl.ErrBad}, {impl.MaxList, impl.ErrBad}, {impl.MaxList + 1, impl.ErrLong}, {2 * impl.MaxList, impl.ErrLong},
	} {
		masses := slices.Repeat([]impl.Mass{mass(1, 1, 4)}, c.count)
		if c.code == impl.OK {
			checkLoudest(t, masses, []float64{0, 0.25, 0.5, 1, 2, 4})
		} else {
			checkNotLoud(t, masses, []float64{0, 0.25, 0.5, 1, 2, 4}, c.code)
		}
		for _, pulses := range [][]float64{nil, {noNumber}, {-1}, make([]float64, 1001), make([]float64, impl.MaxList)} {
			checkNotLoud(t, masses, pulses, max(impl.ErrBad, c.code))
		}
		checkNotLoud(t, masses, make([]float64, impl.MaxList+1), impl.ErrLong)
	}
}

// The code is that of the first pulse that has one, whatever comes behind it.
func TestLoudestTellsTheFirstCode(t *testing.T) {
	free := []impl.Mass{mass(1, 0, 4)} // ErrZero at 2
	for _, c := range []struct {
		pulses []float64
		code   int
	}{
		{[]float64{2}, impl.ErrZero}, {[]float64{-1}, impl.ErrBad}, {[]float64{noNumber}, impl.ErrBad}, {[]float64{endless}, impl.ErrBad}, {[]float64{-endless}, impl.ErrBad},
		{[]float64{1, 2}, impl.ErrZero}, {[]float64{2, 1}, impl.ErrZero}, {[]float64{1, 2, 3}, impl.ErrZero}, {[]float64{0, 1, 3, 2}, impl.ErrZero},
		{[]float64{1, 1000001}, impl.ErrBad}, {[]float64{1, 3, noNumber}, impl.ErrBad}, {[]float64{1, -tiniest, 3}, impl.ErrBad},
		{[]float64{2, -1}, impl.ErrZero}, {[]float64{-1, 2}, impl.ErrBad}, {[]float64{1, 2, noNumber, 3}, impl.ErrZero}, {[]float64{1, noNumber, 2, 3}, impl.ErrBad},
		{append(slices.Repeat([]float64{1}, 999), 2), impl.ErrZero}, {append(slices.Repeat([]float64{1}, 999), -1), impl.ErrBad},
	} {
		checkNotLoud(t, free, c.pulses, c.code)
		checkLoudest(t, free, c.pulses)
		// wrong masses have their code at the first pulse
		checkNotLoud(t, []impl.Mass{mass(1, 0, 4), mass(1, -1, 4)}, c.pulses, impl.ErrBad)
	}
}

func TestLoudestOfPulsesByTheirBounds(t *testing.T) {
	masses := []impl.Mass{mass(1, 1, 4), mass(2, 0.5, 3)}
	for _, x := range edgeSizes {
		for at := range 3 {
			pulses := []float64{1, 1.5, 0.5}
			pulses[at] = x
			if x >= 0 && x <= 1000000 {
				checkLoudest(t, masses, pulses)
			} else {
				checkNotLoud(t, masses, pulses, impl.ErrBad)
			}
			for field := range 3 {
				wrong := slices.Clone(masses)
				low := []float64{0.001, 0, 0.001}[field]
				*[]*float64{&wrong[at%2].M, &wrong[at%2].C, &wrong[at%2].K}[field] = x
				if x >= low && x <= 1000000 {
					checkLoudest(t, wrong, []float64{0, 1, 2})
				} else {
					checkNotLoud(t, wrong, []float64{0, 1, 2}, impl.ErrBad)
				}
			}
		}
	}
}

func TestLoudestOfDrawnPulses(t *testing.T) {
	draw := rand.New(rand.NewSource(190))
	codes, later, slipped := map[int]int{}, 0, 0
	drawnSwings(draw, 150, func(masses []impl.Mass, pulse float64) {
		var pulses []float64
		for range 1 + draw.Intn(8) {
			pulses = append(pulses, []float64{pulse, 0, 1, pulse * draw.Float64(), drawnPower(draw, -2, 2)}[draw.Intn(5)])
		}
		number, most, code := impl.Loudest(masses, pulses)
		for _, one := range pulses {
			sways, _ := impl.Sway(masses, one)
			if len(sways) > 0 && math.IsNaN(sways[len(sways)-1].Re) {
				return // told apart by TestLoudestOfNoNumbers
			}
		}
		checkLoudest(t, masses, pulses)
		codes[code]++
		if number > 0 {
			later++
		}
		if _, other, _ := (teller{"n, first in one"}).loudest(masses, pulses); other != most {
			slipped++
		}
	})
	if codes[impl.OK] < 1500 || codes[impl.ErrZero] < 10 || later < 500 || slipped < 30 {
		t.Error("codes", codes, "later", later, "slipped", slipped)
	}
}

// What is not a number is more than nothing, and nothing is more than it: it is
// told where it is the first one's. What is without end is more than others.
func TestLoudestOfNoNumbers(t *testing.T) {
	faint := []impl.Mass{mass(1, 1e-300, 4)} // at 2 its n is nought
	checkSameLoudest := func(pulses []float64, number int, most float64) {
		t.Helper()
		if got, gotMost, code := impl.Loudest(faint, pulses); got != number || !sameNumber(gotMost, most) || code != impl.OK {
			t.Error("Loudest", faint, pulses, got, gotMost, code, "not", number, most)
		}
	}
	checkSameLoudest([]float64{2}, 0, noNumber)
	checkSameLoudest([]float64{2, 0}, 0, noNumber)
	checkSameLoudest([]float64{0, 2}, 0, 0.0625)
	checkSameLoudest([]float64{0, 2, 2.25, 2}, 2, teller{}.size(sway1(t, faint[0], 2.25)))
	faint[0].C = 0x1p-530 // at 2 its n is a number, but what it sways by has no square
	checkSameLoudest([]float64{2}, 0, endless)
	checkSameLoudest([]float64{0, 2, 1, 2}, 1, endless)
}

func sway1(t *testing.T, m impl.Mass, pulse float64) impl.Tone {
	t.Helper()
	sways, code := checkSway(t, []impl.Mass{m}, pulse)
	if code != impl.OK {
		t.Fatal("Sway", m, pulse, code)
	}
	return sways[0]
}

// Answers share no memory with anything, and nothing is written into arguments or
// behind their ends.
func TestVibrationAnswersAreNewMemory(t *testing.T) {
	for _, masses := range [][]impl.Mass{nil, {mass(1, 2, 3)}, {mass(1, 0, 2), mass(1, 0, 3), mass(1, 0, 1)}, {mass(1, 0, 1)}, {mass(-1, 0, 1)}, slices.Repeat([]impl.Mass{mass(1, 1, 1)}, 20), make([]impl.Mass, 4097)} {
		for _, x := range [][]float64{nil, {1}, {0.25, 2, 0.5}, {1, 2, 3, 4, 5, 6, 7, 8}, {1, -2}, make([]float64, 4097)} {
			massArray, array := append(slices.Clone(masses), mass(55, 56, 57), mass(58, 59, 60)), append(slices.Clone(x), 65, 66, 67)
			given, numbers := massArray[:len(masses)], array[:len(x)]
			all := func() string {
				sways, swayCode := impl.Sway(given, 1)
				tones, toneCode := impl.Spectrum(numbers)
				calmed, calmCode := impl.Calm(numbers, 0.25)
				number, most, code := impl.Loudest(given, numbers)
				told := fmt.Sprint(sways, swayCode, tones, toneCode, calmed, calmCode, number, most, code)
				spoilAll(sways, tone(77, 77))
				spoilAll(tones, tone(77, 77))
				spoilAll(calmed, 77)
				return told
			}
			first := all()
			if again := all(); again != first {
				t.Error("answers share memory", short(masses), short(x), short(first), short(again))
			}
			if !slices.Equal(massArray, append(slices.Clone(masses), mass(55, 56, 57), mass(58, 59, 60))) || !slices.Equal(array, append(slices.Clone(x), 65, 66, 67)) {
				t.Error("an argument was changed", short(massArray), short(array))
			}
		}
	}
}

// vibrationCalls: calls of every function of the layer, right, at an edge and wrong.
func vibrationCalls() []func() string {
	var calls []func() string
	tell := func(call func() string) { calls = append(calls, call) }
	lists := [][]float64{nil, {0}, {2, minusZero}, {1, 2, 3, 4, 5, 6, 7, 8}, {0.1, -0.1, mostHeld, -mostHeld, tiniest, 0, 0, 1}, {noNumber}, {1, endless}, make([]float64, 1000), make([]float64, 1001), make([]float64, impl.MaxList+1)}
	for _, x := range lists {
		tell(func() string { return fmt.Sprint(impl.Spectrum(x)) })
		for _, share := range []float32{0, 0.3, 1, 2, float32(noNumber)} {
			tell(func() string { return fmt.Sprint(impl.Calm(x, share)) })
		}
	}
	for _, masses := range [][]impl.Mass{
		nil, {mass(1, 3, 4)}, {mass(1, 0, 4)}, {mass(1, tiniest, 4)}, {mass(1, 0, 2), mass(2, 0, 2)}, {mass(1, 0, noNumber)}, slices.Repeat([]impl.Mass{mass(1, 0.1, 1)}, 20), make([]impl.Mass, 21), make([]impl.Mass, impl.MaxList+1),
	} {
		for _, pulse := range []float64{0, minusZero, 1, 2, mostHeld, -1, noNumber, endless} {
			tell(func() string { return fmt.Sprint(impl.Sway(masses, pulse)) })
		}
		for _, pulses := range lists {
			tell(func() string { return fmt.Sprint(impl.Loudest(masses, pulses)) })
		}
	}
	return calls
}
