package tests

import (
	"math"
	"math/rand"
	"slices"
	"testing"

	"loop.example/g00056/impl"
)

const eighthTurn = 0.7071067811865476

// checkSpectrum holds the tones of eight right numbers against the words of the
// chapter, bit for bit.
func checkSpectrum(t *testing.T, x []float64) []impl.Tone {
	t.Helper()
	want := teller{}.spectrum(x)
	tones, code := impl.Spectrum(x)
	if code != impl.OK || !sameTones(tones, want) {
		t.Fatal("Spectrum", x, tones, code, "not", want)
	}
	for _, a := range tones {
		// a sum that goes from +0 on comes to no -0
		if kindOf(a.Re) == "-0" || kindOf(a.Im) == "-0" {
			t.Fatal("Spectrum", x, tones)
		}
	}
	return tones
}

func checkNoSpectrum(t *testing.T, x []float64, code int) {
	t.Helper()
	if tones, got := impl.Spectrum(x); len(tones) != 0 || got != code {
		t.Error("Spectrum", short(x), tones, got, "not", code)
	}
}

func checkSpectrumNear(t *testing.T, x []float64, want ...impl.Tone) {
	t.Helper()
	for k, got := range checkSpectrum(t, x) {
		if !nearTones(got, want[k], 1e-14) {
			t.Error("Spectrum", x, "tone", k, got, "not", want[k])
		}
	}
}

func TestSpectraTold(t *testing.T) {
	none := impl.Tone{}
	checkSpectrumNear(t, []float64{0, 0, 0, 0, 0, 0, 0, 0}, none, none, none, none, none, none, none, none)
	checkSpectrumNear(t, []float64{1, 1, 1, 1, 1, 1, 1, 1}, tone(8, 0), none, none, none, none, none, none, none)
	checkSpectrumNear(t, []float64{-3, -3, -3, -3, -3, -3, -3, -3}, tone(-24, 0), none, none, none, none, none, none, none)
	checkSpectrumNear(t, []float64{1, -1, 1, -1, 1, -1, 1, -1}, none, none, none, none, tone(8, 0), none, none, none)
	checkSpectrumNear(t, []float64{2, -3, 2, -3, 2, -3, 2, -3}, tone(-4, 0), none, none, none, tone(20, 0), none, none, none)
	checkSpectrumNear(t, []float64{1, 0, -1, 0, 1, 0, -1, 0}, none, none, tone(4, 0), none, none, none, tone(4, 0), none)
	checkSpectrumNear(t, []float64{0, 1, 0, -1, 0, 1, 0, -1}, none, none, tone(0, -4), none, none, none, tone(0, 4), none)
	checkSpectrumNear(t, []float64{1, 1, -1, -1, 1, 1, -1, -1}, none, none, tone(4, -4), none, none, none, tone(4, 4), none)
	checkSpectrumNear(t, []float64{1, eighthTurn, 0, -eighthTurn, -1, -eighthTurn, 0, eighthTurn}, none, tone(4, 0), none, none, none, none, none, tone(4, 0))
	root := 1 + math.Sqrt2
	checkSpectrumNear(t, []float64{1, 2, 3, 4, 5, 6, 7, 8}, tone(36, 0), tone(-4, 4*root), tone(-4, 4), tone(-4, 4/root), tone(-4, 0), tone(-4, -4/root), tone(-4, -4), tone(-4, -4*root))
}

// All tones of one number alone are as loud as it is, tone k turned by j k eighths.
// All noughts have the sign +, since each sum goes on from +0.
func TestSpectraOfOneNumberAlone(t *testing.T) {
	turns := []impl.Tone{
		tone(1, 0), tone(eighthTurn, -eighthTurn), tone(0, -1), tone(-eighthTurn, -eighthTurn),
		tone(-1, 0), tone(-eighthTurn, eighthTurn), tone(0, 1), tone(eighthTurn, eighthTurn),
	}
	for j := range 8 {
		for _, number := range []float64{1, -1, 4, -0.5, 3, -mostHeld, mostHeld, 0.1, tiniest, -tiniest, minusZero} {
			for _, nought := range []float64{0, minusZero} {
				x := slices.Repeat([]float64{nought}, 8)
				x[j] = number
				tones := checkSpectrum(t, x)
				for k, got := range tones {
					turn := turns[j*k%8]
					if !sameTone(got, tone(0+number*turn.Re, 0+number*turn.Im)) {
						t.Error("Spectrum", x, "tone", k, got)
					}
				}
			}
		}
	}
}

// One rounding in place of two would be -2.949747468305833 and
// -0.12132034355964272 in the first two. In the last three the order tells what
// is lost beside a great number.
func TestSpectraByTheirRoundings(t *testing.T) {
	for _, c := range []struct {
		x    []float64
		k    int
		want impl.Tone
	}{
		{[]float64{2, -7, 0, 0, 0, 0, 0, 0}, 1, tone(-2.9497474683058327, 4.949747468305833)},
		{[]float64{2, -3, 0, 0, 0, 0, 0, 0}, 1, tone(-0.12132034355964283, 2.121320343559643)},
		{[]float64{1, 1, 0, 1, -1, 0, 0, 0}, 1, tone(2, -1.4142135623730951)},
		{[]float64{mostHeld, 1e-11, 1e-11, 1e-11, -mostHeld, 1e-11, 0, 0}, 0, tone(1e-11, 0)},
		{[]float64{1e-11, 1e-11, mostHeld, 0, 0, 0, -mostHeld, 0}, 0, tone(0, 0)},
		{[]float64{0, mostHeld, 0, 0, 0, -mostHeld, 1e-11, 1e-11}, 0, tone(2e-11, 0)},
	} {
		if tones := checkSpectrum(t, c.x); !sameTone(tones[c.k], c.want) {
			t.Error("Spectrum", c.x, "tone", c.k, tones[c.k], "not", c.want)
		}
	}
}

func drawnNumbers(draw *rand.Rand, count int) []float64 {
	var x []float64
	kind := draw.Intn(5)
	for range count {
		number := (2*draw.Float64() - 1) * []float64{1, mostHeld, 10, 1, 1}[kind]
		switch kind {
		case 2:
			number = math.Round(number)
		case 3:
			number *= drawnPower(draw, -20, 6)
		case 4:
			number *= drawnPower(draw, -320, -300)
		}
		if draw.Intn(6) == 0 {
			number = []float64{0, minusZero, mostHeld, -mostHeld, tiniest}[draw.Intn(5)]
		}
		x = append(x, number)
	}
	return x
}

func greatestSize(x []float64) float64 {
	most := 0.0
	for _, number := range x {
		most = max(most, math.Abs(number))
	}
	return most
}

// Tone 0 is the sum; the tones together are eight times the first number, and
// turned by j eighths eight times number j; opposite tones are mirrored.
func TestSpectraOfDrawnNumbers(t *testing.T) {
	draw := rand.New(rand.NewSource(185))
	for range 4000 {
		x := drawnNumbers(draw, 8)
		tones := checkSpectrum(t, x)
		sum := 0.0
		for _, number := range x {
			sum += number
		}
		if !sameTone(tones[0], tone(sum, 0)) {
			t.Fatal("Spectrum", x, tones[0], "not", sum)
		}
		far := 1e-13*greatestSize(x) + 100*tiniest
		together := impl.Tone{}
		for k, one := range tones {
			together.Re, together.Im = together.Re+one.Re, together.Im+one.Im
			if other := tones[(8-k)%8]; !nearTones(one, tone(other.Re, -other.Im), far) {
				t.Fatal("Spectrum", x, tones, "no mirror at", k)
			}
		}
		if !nearTones(together, tone(8*x[0], 0), far) {
			t.Fatal("Spectrum", x, tones, "together", together)
		}
		for j, number := range x {
			back := 0.0
			for k, one := range tones {
				angle := 2 * math.Pi * float64(j*k) / 8
				back += one.Re*math.Cos(angle) - one.Im*math.Sin(angle)
			}
			if math.Abs(back-8*number) > 10*far {
				t.Fatal("Spectrum", x, tones, "number", j, "is", back/8)
			}
		}
	}
}

func TestSpectraWouldShowSlips(t *testing.T) {
	draw := rand.New(rand.NewSource(186))
	shown := map[string]int{}
	for range 200 {
		x := drawnNumbers(draw, 8)
		tones, _ := impl.Spectrum(x)
		for _, slip := range []string{"in one", "from the last number on"} {
			if !sameTones(tones, teller{slip}.spectrum(x)) {
				shown[slip]++
			}
		}
	}
	if shown["in one"] < 50 || shown["from the last number on"] < 50 {
		t.Error("too few would show", shown)
	}
}

func TestSpectraByHowMany(t *testing.T) {
	for _, number := range []float64{0, 1, mostHeld, noNumber, endless, -1000001} {
		for _, count := range []int{0, 1, 2, 6, 7, 9, 10, 15, 16, 24, 256 + 8, 1000, impl.MaxList} {
			checkNoSpectrum(t, slices.Repeat([]float64{number}, count), impl.ErrBad)
		}
		for _, count := range []int{impl.MaxList + 1, 2 * impl.MaxList} {
			checkNoSpectrum(t, slices.Repeat([]float64{number}, count), impl.ErrLong)
		}
	}
	checkNoSpectrum(t, nil, impl.ErrBad)
	checkSpectrum(t, slices.Repeat([]float64{1}, 8))
}

func TestSpectraByTheirBounds(t *testing.T) {
	for at := range 8 {
		for _, number := range edgeSizes {
			x := []float64{1, 2, 3, -4, 5, 6, 7, 8}
			x[at] = number
			if number >= -1000000 && number <= 1000000 {
				checkSpectrum(t, x)
			} else {
				checkNoSpectrum(t, x, impl.ErrBad)
			}
		}
	}
	for _, number := range []float64{mostHeld, -mostHeld} {
		checkSpectrum(t, slices.Repeat([]float64{number}, 8))
	}
}
