package tests

import (
	"math"
	"math/big"
	"math/rand"
	"slices"

	"loop.example/g00056/impl"
)

// What M, C, K, a pulse and a sample are at most, and M and K at least.
const (
	mostHeld  = 1000000
	leastHeld = 0.001
)

var (
	minusZero = math.Copysign(0, -1)
	endless   = math.Inf(1)
	noNumber  = math.NaN()
	tiniest   = math.SmallestNonzeroFloat64
)

// A teller makes what the words of the chapter tell, each operation exactly and
// then rounded. Its slip, if it has one, names what it does in another way: where
// that shows, a program that does so would be found.
type teller struct{ slip string }

// exactBits hold each sum and each product of two numbers without rounding, and
// each quotient so near that it rounds as the exact one does.
const exactBits = 3000

func exactFloat(a float64) *big.Float { return new(big.Float).SetPrec(exactBits).SetFloat64(a) }

// roundedOnce: the machine's own operation is taken where no exact number is, of
// operands without end, of those that are no numbers, and of a quotient by nought.
func roundedOnce(a, b, own float64, make func(z, x, y *big.Float) *big.Float) float64 {
	if math.IsNaN(own) || math.IsInf(a, 0) || math.IsInf(b, 0) || math.IsInf(own, 0) && b == 0 {
		return own
	}
	made, _ := make(new(big.Float).SetPrec(exactBits), exactFloat(a), exactFloat(b)).Float64()
	return made
}

func exactSum(a, b float64) float64 { return roundedOnce(a, b, a+b, (*big.Float).Add) }

func exactProduct(a, b float64) float64 { return roundedOnce(a, b, a*b, (*big.Float).Mul) }

func exactQuotient(a, b float64) float64 { return roundedOnce(a, b, a/b, (*big.Float).Quo) }

// twoProducts is a b + c d. A difference of two is told by the other sign of c.
func (w teller) twoProducts(place string, a, b, c, d float64) float64 {
	first, second := exactProduct(a, b), exactProduct(c, d)
	switch w.slip {
	case place + ", first in one":
		return math.FMA(a, b, second)
	case place + ", second in one":
		return math.FMA(c, d, first)
	}
	return exactSum(first, second)
}

func (w teller) sum(a, b impl.Tone) impl.Tone {
	return impl.Tone{Re: exactSum(a.Re, b.Re), Im: exactSum(a.Im, b.Im)}
}

func (w teller) product(a, b impl.Tone) impl.Tone {
	if w.slip == "product by the mirror" {
		a.Im = -a.Im
	}
	return impl.Tone{
		Re: w.twoProducts("Re of a product", a.Re, b.Re, -a.Im, b.Im),
		Im: w.twoProducts("Im of a product", a.Re, b.Im, a.Im, b.Re),
	}
}

func (w teller) size(a impl.Tone) float64 { return w.twoProducts("n", a.Re, a.Re, a.Im, a.Im) }

func (w teller) quotient(a, b impl.Tone) impl.Tone {
	n := w.size(b)
	re := w.twoProducts("Re of a quotient", a.Re, b.Re, a.Im, b.Im)
	im := w.twoProducts("Im of a quotient", a.Im, b.Re, -a.Re, b.Im)
	switch w.slip {
	case "the language's quotient":
		made := complex(a.Re, a.Im) / complex(b.Re, b.Im)
		return impl.Tone{Re: real(made), Im: imag(made)}
	case "one by n":
		return impl.Tone{Re: exactProduct(re, exactQuotient(1, n)), Im: exactProduct(im, exactQuotient(1, n))}
	case "n of 0 gives 0":
		if n == 0 {
			return impl.Tone{}
		}
	}
	return impl.Tone{Re: exactQuotient(re, n), Im: exactQuotient(im, n)}
}

func isNought(a impl.Tone) bool { return a.Re == 0 && a.Im == 0 }

// quotientOrNought: by a b that is {0, 0} it is 0, 0.
func (w teller) quotientOrNought(place string, a, b impl.Tone) impl.Tone {
	if isNought(b) && w.slip != place+" by nought" {
		return impl.Tone{}
	}
	return w.quotient(a, b)
}

func (w teller) link(m impl.Mass, pulse float64) impl.Tone {
	return impl.Tone{Re: m.K, Im: exactProduct(pulse, m.C)}
}

// withOwn is o + to.
func (w teller) withOwn(m impl.Mass, pulse float64, to impl.Tone) impl.Tone {
	weight := exactProduct(exactProduct(pulse, pulse), m.M)
	switch w.slip {
	case "w times M first":
		weight = exactProduct(pulse, exactProduct(pulse, m.M))
	case "weight in one":
		return impl.Tone{Re: math.FMA(-exactProduct(pulse, pulse), m.M, to.Re), Im: exactSum(0, to.Im)}
	}
	return w.sum(impl.Tone{Re: -weight, Im: 0}, to)
}

func within(x, low, high float64) bool { return x >= low && x <= high }

func rightMasses(masses []impl.Mass) bool {
	for _, m := range masses {
		if !within(m.M, leastHeld, mostHeld) || !within(m.C, 0, mostHeld) || !within(m.K, leastHeld, mostHeld) {
			return false
		}
	}
	return len(masses) >= 1 && len(masses) <= 20
}

func (w teller) drags(masses []impl.Mass, pulse float64) []impl.Tone {
	d := []impl.Tone{w.withOwn(masses[0], pulse, w.link(masses[0], pulse))}
	for i := 1; i < len(masses); i++ {
		l := w.link(masses[i], pulse)
		d = append(d, w.withOwn(masses[i], pulse, w.quotientOrNought("d", w.product(l, d[i-1]), w.sum(d[i-1], l))))
	}
	return d
}

func (w teller) sway(masses []impl.Mass, pulse float64) ([]impl.Tone, int) {
	if len(masses) > 4096 {
		return nil, impl.ErrLong
	}
	if !rightMasses(masses) || !within(pulse, 0, mostHeld) {
		return nil, impl.ErrBad
	}
	d, last := w.drags(masses, pulse), len(masses)-1
	if isNought(d[last]) {
		return nil, impl.ErrZero
	}
	sways := make([]impl.Tone, len(masses))
	sways[last] = w.quotient(impl.Tone{Re: 1}, d[last])
	for i := last - 1; i >= 0; i-- {
		l := w.link(masses[i+1], pulse)
		sways[i] = w.quotientOrNought("sway", w.product(l, sways[i+1]), w.sum(d[i], l))
	}
	return sways, impl.OK
}

func (w teller) loudest(masses []impl.Mass, pulses []float64) (int, float64, int) {
	if len(masses) > 4096 || len(pulses) > 4096 {
		return 0, 0, impl.ErrLong
	}
	if len(pulses) < 1 || len(pulses) > 1000 {
		return 0, 0, impl.ErrBad
	}
	var sizes []float64
	for _, pulse := range pulses {
		sways, code := teller{}.sway(masses, pulse)
		if code != impl.OK {
			return 0, 0, code
		}
		sizes = append(sizes, w.size(sways[len(sways)-1]))
	}
	for k, size := range sizes {
		if !slices.ContainsFunc(sizes, func(other float64) bool { return other > size }) {
			return k, size, impl.OK
		}
	}
	return 0, 0, impl.OK
}

// turnsByHand are Re and Im of t(0) to t(7).
var turnsByHand = [8][2]float64{
	{1, 0}, {0.7071067811865476, -0.7071067811865476}, {0, -1}, {-0.7071067811865476, -0.7071067811865476},
	{-1, 0}, {-0.7071067811865476, 0.7071067811865476}, {0, 1}, {0.7071067811865476, 0.7071067811865476},
}

func (w teller) spectrum(x []float64) []impl.Tone {
	var tones []impl.Tone
	for k := range 8 {
		parts := [2]float64{}
		for step := range 8 {
			j := step
			if w.slip == "from the last number on" {
				j = 7 - step
			}
			for part, turn := range turnsByHand[j*k%8] {
				if w.slip == "in one" {
					parts[part] = math.FMA(x[j], turn, parts[part])
				} else {
					parts[part] = exactSum(parts[part], exactProduct(x[j], turn))
				}
			}
		}
		tones = append(tones, impl.Tone{Re: parts[0], Im: parts[1]})
	}
	return tones
}

func rounded32(a float64) float32 {
	made, _ := exactFloat(a).Float32()
	return made
}

// Sums and products of two of float32 are made exactly, too, ahead of rounding.
func exactSum32(a, b float32) float32 {
	made, _ := exactFloat(float64(a)).Add(exactFloat(float64(a)), exactFloat(float64(b))).Float32()
	return made
}

func exactProduct32(a, b float32) float32 {
	made, _ := exactFloat(float64(a)).Mul(exactFloat(float64(a)), exactFloat(float64(b))).Float32()
	return made
}

func (w teller) calmed(x float64, ahead, share float32) float32 {
	short := rounded32(x)
	switch w.slip {
	case "in one":
		step := exactFloat(0).Mul(exactFloat(float64(share)), exactFloat(float64(exactSum32(short, -ahead))))
		made, _ := step.Add(step, exactFloat(float64(ahead))).Float32()
		return made
	case "in float64":
		return float32(float64(ahead) + float64(share)*(float64(short)-float64(ahead)))
	case "x as it is":
		return exactSum32(ahead, exactProduct32(share, float32(x-float64(ahead))))
	case "two shares":
		return exactSum32(exactProduct32(exactSum32(1, -share), ahead), exactProduct32(share, short))
	}
	return exactSum32(ahead, exactProduct32(share, exactSum32(short, -ahead)))
}

func (w teller) calm(x []float64, share float32) []float32 {
	var calmed []float32
	for i, number := range x {
		if i == 0 {
			calmed = append(calmed, rounded32(number))
		} else {
			calmed = append(calmed, w.calmed(number, calmed[i-1], share))
		}
	}
	return calmed
}

// sameNumber: bit for bit, but what is not a number is any such.
func sameNumber[T float32 | float64](a, b T) bool {
	return a != a && b != b || a == b && math.Signbit(float64(a)) == math.Signbit(float64(b))
}

func sameTone(a, b impl.Tone) bool { return sameNumber(a.Re, b.Re) && sameNumber(a.Im, b.Im) }

func sameTones(a, b []impl.Tone) bool { return slices.EqualFunc(a, b, sameTone) }

func mass(m, c, k float64) impl.Mass { return impl.Mass{M: m, C: c, K: k} }

func tone(re, im float64) impl.Tone { return impl.Tone{Re: re, Im: im} }

// drawnPower is of any size from ten to the power low up to that of high.
func drawnPower(draw *rand.Rand, low, high float64) float64 {
	return math.Pow(10, low+(high-low)*draw.Float64())
}

// drawnWhole: small numbers, so that much comes to nothing.
func drawnWhole(draw *rand.Rand, count int) ([]impl.Mass, float64) {
	var masses []impl.Mass
	damped := draw.Intn(2) * draw.Intn(3)
	for range count {
		masses = append(masses, mass(float64(1+draw.Intn(3)), float64(draw.Intn(damped+1)), float64(1+draw.Intn(8))))
	}
	return masses, float64(draw.Intn(4))
}

// drawnHardlyDamped: whole numbers, so that springs just hold what masses pull, and
// dampers of which the squares, at least, come to nothing.
func drawnHardlyDamped(draw *rand.Rand, count int) ([]impl.Mass, float64) {
	dampers := []float64{0, minusZero, tiniest, 1e-310, 1e-200, 1e-162, 1e-158, 1e-100}
	masses, pulse := drawnWhole(draw, count)
	for i := range masses {
		masses[i].C = dampers[draw.Intn(len(dampers))]
	}
	return masses, pulse
}

// drawnFading: heavy masses on weak springs hardly sway at a great pulse, those
// that are far from the push least.
func drawnFading(draw *rand.Rand, count int) ([]impl.Mass, float64) {
	var masses []impl.Mass
	for range count {
		masses = append(masses, mass(drawnPower(draw, 4, 6), float64(draw.Intn(2))*drawnPower(draw, -30, -20), drawnPower(draw, -2.5, 0)))
	}
	return masses, drawnPower(draw, 4, 6)
}

// drawnSwinging: springs that nearly hold what their masses pull, with dampers
// of any size or none.
func drawnSwinging(draw *rand.Rand, count int) ([]impl.Mass, float64) {
	pulse := drawnPower(draw, -1, 1)
	low := []float64{-320, -160, -20, -2}[draw.Intn(4)]
	var masses []impl.Mass
	for range count {
		m := mass(drawnPower(draw, -1, 1), 0, 0)
		m.K = min(mostHeld, max(leastHeld, pulse*pulse*m.M*(1+draw.Float64())))
		if draw.Intn(3) > 0 {
			m.C = drawnPower(draw, low, low+4)
		}
		masses = append(masses, m)
	}
	return masses, pulse
}

// drawnWide: of all sizes that are right.
func drawnWide(draw *rand.Rand, count int) ([]impl.Mass, float64) {
	inBounds := func(x float64) float64 { return min(mostHeld, max(leastHeld, x)) }
	var masses []impl.Mass
	for range count {
		m := mass(inBounds(drawnPower(draw, -3, 6)), min(mostHeld, drawnPower(draw, -12, 6)), inBounds(drawnPower(draw, -3, 6)))
		if draw.Intn(4) == 0 {
			m.C = 0
		}
		masses = append(masses, m)
	}
	return masses, min(mostHeld, drawnPower(draw, -8, 6)) * float64(min(1, draw.Intn(12)))
}

func drawnSwings(draw *rand.Rand, times int, do func([]impl.Mass, float64)) {
	for range times {
		for _, drawn := range []func(*rand.Rand, int) ([]impl.Mass, float64){drawnWhole, drawnHardlyDamped, drawnFading, drawnSwinging, drawnWide} {
			do(drawn(draw, 1))
			do(drawn(draw, 2+draw.Intn(3)))
			do(drawn(draw, 1+draw.Intn(20)))
		}
	}
}
