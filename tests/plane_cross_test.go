package tests

import (
	"math/big"
	"math/rand"
	"slices"
	"testing"

	"loop.example/g00056/impl"
)

func at(x, y int) impl.Point { return impl.Point{X: x, Y: y} }

// points takes X and Y by turns.
func points(numbers ...int) []impl.Point {
	var list []impl.Point
	for i := 0; i < len(numbers); i += 2 {
		list = append(list, at(numbers[i], numbers[i+1]))
	}
	return list
}

// wrongPoints: one coordinate or both are out of their bounds.
var wrongPoints = []impl.Point{
	{X: impl.MaxAt + 1}, {X: -impl.MaxAt - 1}, {Y: impl.MaxAt + 1}, {Y: -impl.MaxAt - 1}, {X: least}, {X: greatest}, {Y: least}, {Y: greatest},
	{X: least, Y: least}, {X: greatest, Y: greatest}, {X: impl.MaxAt, Y: impl.MaxAt + 1}, {X: -impl.MaxAt - 1, Y: -impl.MaxAt}, {X: 1 << 32}, {Y: -1 << 32},
}

func square(side int) []impl.Point {
	var list []impl.Point
	for x := range side {
		for y := range side {
			list = append(list, at(x, y))
		}
	}
	return list
}

func TestPlaneLimits(t *testing.T) {
	if impl.MaxAt != 100000 || impl.MaxCorners != 200 {
		t.Error("limits", impl.MaxAt, impl.MaxCorners)
	}
}

func TestTurn(t *testing.T) {
	const m = impl.MaxAt
	for _, c := range []struct {
		p    []impl.Point
		want int
	}{
		{points(0, 0, 4, 0, 2, 1), 1}, {points(0, 0, 4, 0, 2, -1), -1}, {points(0, 0, 4, 0, 9, 0), 0}, {points(0, 0, 4, 0, -9, 0), 0},
		{points(0, 0, 0, 4, -1, 2), 1}, {points(0, 0, 0, 4, 1, 2), -1}, {points(1, 1, 2, 3, 3, 5), 0}, {points(1, 1, 2, 3, 3, 6), 1}, {points(1, 1, 2, 3, 3, 4), -1},
		{points(3, 3, 3, 3, 5, 7), 0}, {points(3, 3, 5, 7, 3, 3), 0}, {points(5, 7, 3, 3, 3, 3), 0}, {points(3, 3, 3, 3, 3, 3), 0},
		{points(-m, -m, m, -m, m, m), 1}, {points(-m, -m, m, m, m, -m), -1}, {points(-m, -m, 0, 0, m, m), 0},
		{points(-m, -m, m, m, m-1, m), 1}, {points(-m, -m, m, m, m, m-1), -1}, {points(-m, -m, m-1, m, m, m), -1}, {points(m, -m, -m, m, 0, 0), 0}, {points(m, -m, -m, m, 0, 1), -1},
	} {
		if got, code := impl.Turn(c.p[0], c.p[1], c.p[2]); got != c.want || code != impl.OK {
			t.Error("Turn", c.p, got, code)
		}
	}
}

func exactTurn(a, b, c impl.Point) int {
	way := func(from, to int) *big.Int { return new(big.Int).Sub(big.NewInt(int64(to)), big.NewInt(int64(from))) }
	left := new(big.Int).Mul(way(a.X, b.X), way(a.Y, c.Y))
	right := new(big.Int).Mul(way(a.Y, b.Y), way(a.X, c.X))
	return left.Cmp(right)
}

func TestTurnIsExact(t *testing.T) {
	draw := rand.New(rand.NewSource(41))
	far := func() int { return draw.Intn(2*impl.MaxAt+1) - impl.MaxAt }
	for range 20000 {
		a, b := at(far(), far()), at(far(), far())
		c := at((a.X+b.X)/2+draw.Intn(3)-1, (a.Y+b.Y)/2+draw.Intn(3)-1) // as near to their line as can be
		c.X, c.Y = max(-impl.MaxAt, min(c.X, impl.MaxAt)), max(-impl.MaxAt, min(c.Y, impl.MaxAt))
		want := exactTurn(a, b, c)
		for _, row := range [][3]impl.Point{{a, b, c}, {b, c, a}, {c, a, b}} {
			if got, code := impl.Turn(row[0], row[1], row[2]); got != want || code != impl.OK {
				t.Fatal("Turn", row, got, code, "not", want)
			}
			if got, _ := impl.Turn(row[1], row[0], row[2]); got != -want {
				t.Fatal("Turn the other way round", row, got, "not", -want)
			}
		}
	}
}

func TestTurnAndCrossOfWrongPoints(t *testing.T) {
	for _, wrong := range wrongPoints {
		for place := range 4 {
			p := points(0, 0, 4, 4, 0, 4, 4, 0)
			p[place] = wrong
			if n, spots, code := impl.Cross(p[0], p[1], p[2], p[3]); n != 0 || len(spots) != 0 || code != impl.ErrBad {
				t.Error("Cross", p, n, spots, code)
			}
			if place == 3 {
				continue
			}
			if got, code := impl.Turn(p[0], p[1], p[2]); got != 0 || code != impl.ErrBad {
				t.Error("Turn", p, got, code)
			}
		}
	}
}

func TestCross(t *testing.T) {
	const m = impl.MaxAt
	type spots = []impl.Spot
	for _, c := range []struct {
		p    []impl.Point
		want spots
	}{
		{points(0, 0, 4, 4, 0, 4, 4, 0), spots{{X: 2, Y: 2, D: 1}}},
		{points(0, 0, 3, 1, 0, 1, 3, 0), spots{{X: 3, Y: 1, D: 2}}},
		{points(0, 0, -3, 1, 0, 1, -3, 0), spots{{X: -3, Y: 1, D: 2}}},
		{points(0, 0, 3, -1, 0, -1, 3, 0), spots{{X: 3, Y: -1, D: 2}}},
		{points(0, 0, -6, -2, 0, -2, -6, 0), spots{{X: -3, Y: -1, D: 1}}},
		{points(0, 0, 2, 4, -1, 1, 5, 1), spots{{X: 1, Y: 2, D: 2}}}, // X alone has a part
		{points(0, 0, 4, 2, 1, -1, 1, 5), spots{{X: 2, Y: 1, D: 2}}}, // Y alone has one
		{points(-1, -1, 1, 2, 1, -1, -1, 2), spots{{X: 0, Y: 1, D: 2}}},
		{points(-1, -2, 1, 2, 1, -2, -1, 2), spots{{X: 0, Y: 0, D: 1}}},
		{points(0, 0, 1, 3, 0, 1, 1, 1), spots{{X: 1, Y: 3, D: 3}}},
		{points(0, 0, 4, 0, 2, 0, 2, 3), spots{{X: 2, Y: 0, D: 1}}}, // an end of one
		{points(0, 0, 4, 0, 4, 0, 4, 3), spots{{X: 4, Y: 0, D: 1}}}, // an end of both
		{points(0, 0, 4, 0, 0, 0, 4, 3), spots{{X: 0, Y: 0, D: 1}}},
		{points(0, 0, 4, 0, 2, 1, 2, 3), nil}, {points(0, 0, 4, 0, 5, -1, 5, 1), nil}, {points(0, 0, 4, 0, -1, -1, -1, 1), nil}, {points(0, 0, 4, 0, 2, -3, 2, -1), nil},
		{points(0, 0, 4, 0, 0, 1, 4, 1), nil}, {points(0, 0, 2, 2, 1, 0, 3, 2), nil}, // side by side
		{points(0, 0, 4, 0, 6, 0, 9, 0), nil}, {points(0, 0, 4, 0, -2, 0, -1, 0), nil}, {points(2, 0, 2, 3, 2, 4, 2, 5), nil}, {points(0, 0, 1, 2, 2, 4, 3, 6), nil}, // on one line, apart
		{points(0, 0, 4, 0, 4, 0, 9, 0), spots{{X: 4, Y: 0, D: 1}}}, {points(1, 1, 3, 3, 1, 1, -3, -3), spots{{X: 1, Y: 1, D: 1}}}, {points(2, 0, 2, 3, 2, 5, 2, 3), spots{{X: 2, Y: 3, D: 1}}},
		{points(0, 0, 4, 0, 6, 0, 2, 0), spots{{X: 2, Y: 0, D: 1}, {X: 4, Y: 0, D: 1}}}, // partly over one another
		{points(2, 4, 2, -4, 2, 9, 2, 1), spots{{X: 2, Y: 1, D: 1}, {X: 2, Y: 4, D: 1}}},
		{points(0, 3, 3, 0, 1, 2, 4, -1), spots{{X: 1, Y: 2, D: 1}, {X: 3, Y: 0, D: 1}}},
		{points(0, 0, 9, 0, 6, 0, 2, 0), spots{{X: 2, Y: 0, D: 1}, {X: 6, Y: 0, D: 1}}}, // wholly
		{points(-1, -2, 1, 2, -9, -18, 8, 16), spots{{X: -1, Y: -2, D: 1}, {X: 1, Y: 2, D: 1}}},
		{points(0, 0, 4, 2, 0, 0, 4, 2), spots{{X: 0, Y: 0, D: 1}, {X: 4, Y: 2, D: 1}}}, // the same
		{points(0, 0, 4, 2, 4, 2, 0, 0), spots{{X: 0, Y: 0, D: 1}, {X: 4, Y: 2, D: 1}}},
		{points(5, 5, 5, 5, 0, 0, 9, 9), spots{{X: 5, Y: 5, D: 1}}}, {points(9, 9, 9, 9, 0, 0, 9, 9), spots{{X: 9, Y: 9, D: 1}}}, {points(0, 0, 9, 9, 0, 0, 0, 0), spots{{X: 0, Y: 0, D: 1}}},
		{points(5, 6, 5, 6, 0, 0, 9, 9), nil}, {points(10, 10, 10, 10, 0, 0, 9, 9), nil}, {points(0, 0, 9, 0, -1, 0, -1, 0), nil}, {points(0, 0, 0, 9, 0, 10, 0, 10), nil},
		{points(5, 6, 5, 6, 5, 6, 5, 6), spots{{X: 5, Y: 6, D: 1}}}, {points(5, 6, 5, 6, 5, 7, 5, 7), nil}, {points(5, 6, 5, 6, 4, 6, 4, 6), nil},
		{points(-m, -m, m, m, -m, m, m, -m), spots{{X: 0, Y: 0, D: 1}}}, {points(-m, -m, m, m, m, m, -m, -m), spots{{X: -m, Y: -m, D: 1}, {X: m, Y: m, D: 1}}},
		{points(-m, -m, m, m-1, -m, m, m, -m+1), spots{{X: m, Y: 0, D: 2*m - 1}}}, {points(-m, -m, m, m, m-1, m, m, m-1), spots{{X: 2*m - 1, Y: 2*m - 1, D: 2}}},
	} {
		n, got, code := impl.Cross(c.p[0], c.p[1], c.p[2], c.p[3])
		if n != len(c.want) || !slices.Equal(got, c.want) || code != impl.OK {
			t.Error("Cross", c.p, n, got, code, "not", c.want)
		}
	}
}

// ratPoint is a point in exact numbers.
type ratPoint [2]*big.Rat

func exactPoint(p impl.Point) ratPoint {
	return ratPoint{big.NewRat(int64(p.X), 1), big.NewRat(int64(p.Y), 1)}
}

func rats(a, b *big.Rat, work func(z, a, b *big.Rat) *big.Rat) *big.Rat {
	return work(new(big.Rat), a, b)
}

func (p ratPoint) minus(q ratPoint) ratPoint {
	return ratPoint{rats(p[0], q[0], (*big.Rat).Sub), rats(p[1], q[1], (*big.Rat).Sub)}
}

func (p ratPoint) across(q ratPoint) *big.Rat {
	return rats(rats(p[0], q[1], (*big.Rat).Mul), rats(p[1], q[0], (*big.Rat).Mul), (*big.Rat).Sub)
}

func (p ratPoint) along(q ratPoint) *big.Rat {
	return rats(rats(p[0], q[0], (*big.Rat).Mul), rats(p[1], q[1], (*big.Rat).Mul), (*big.Rat).Add)
}

// on: seen from p the ends lie in opposite directions, or p is one of them.
func (p ratPoint) on(a, b ratPoint) bool {
	toA, toB := a.minus(p), b.minus(p)
	return toA.across(toB).Sign() == 0 && toA.along(toB).Sign() <= 0
}

func (p ratPoint) compare(q ratPoint) int {
	if order := p[0].Cmp(q[0]); order != 0 {
		return order
	}
	return p[1].Cmp(q[1])
}

// spot brings a point to its least common denominator.
func (p ratPoint) spot() impl.Spot {
	common := new(big.Int).GCD(nil, nil, p[0].Denom(), p[1].Denom())
	d := new(big.Rat).SetInt(new(big.Int).Div(new(big.Int).Mul(p[0].Denom(), p[1].Denom()), common))
	whole := func(r *big.Rat) int { return int(rats(r, d, (*big.Rat).Mul).Num().Int64()) }
	return impl.Spot{X: whole(p[0]), Y: whole(p[1]), D: int(d.Num().Int64())}
}

// exactCross: what two segments have in common is bounded by ends of one that
// lie on the other, and by the point where their lines meet.
func exactCross(p, q, r, s impl.Point) []impl.Spot {
	a, b, c, d := exactPoint(p), exactPoint(q), exactPoint(r), exactPoint(s)
	found := []ratPoint{a, b, c, d}
	if whole := b.minus(a).across(d.minus(c)); whole.Sign() != 0 {
		part := rats(c.minus(a).across(d.minus(c)), whole, (*big.Rat).Quo)
		way := b.minus(a)
		found = append(found, ratPoint{rats(a[0], rats(way[0], part, (*big.Rat).Mul), (*big.Rat).Add), rats(a[1], rats(way[1], part, (*big.Rat).Mul), (*big.Rat).Add)})
	}
	found = slices.DeleteFunc(found, func(x ratPoint) bool { return !x.on(a, b) || !x.on(c, d) })
	slices.SortFunc(found, ratPoint.compare)
	found = slices.CompactFunc(found, func(x, y ratPoint) bool { return x.compare(y) == 0 })
	var spots []impl.Spot
	for i, x := range found {
		if i == 0 || i == len(found)-1 {
			spots = append(spots, x.spot())
		}
	}
	return spots
}

func checkCross(t *testing.T, a, b, c, d impl.Point) {
	t.Helper()
	want := exactCross(a, b, c, d)
	for _, p := range [][4]impl.Point{{a, b, c, d}, {b, a, c, d}, {a, b, d, c}, {c, d, a, b}, {d, c, b, a}} {
		n, got, code := impl.Cross(p[0], p[1], p[2], p[3])
		if n != len(want) || !slices.Equal(got, want) || code != impl.OK {
			t.Fatal("Cross", p, n, got, code, "not", want)
		}
	}
}

func TestCrossOfAllNearSegments(t *testing.T) {
	near := square(3)
	for _, a := range near {
		for _, b := range near {
			for _, c := range near {
				for _, d := range near {
					checkCross(t, a, b, c, d)
				}
			}
		}
	}
}

func TestCrossOfDrawnSegments(t *testing.T) {
	draw := rand.New(rand.NewSource(42))
	for _, reach := range []int{7, 60, 1000, impl.MaxAt} {
		drawn := func() impl.Point { return at(draw.Intn(2*reach+1)-reach, draw.Intn(2*reach+1)-reach) }
		for range 2500 {
			checkCross(t, drawn(), drawn(), drawn(), drawn())
			a, way := at(draw.Intn(9), draw.Intn(9)), at(draw.Intn(5)-2, draw.Intn(5)-2)
			on := func() impl.Point { step := draw.Intn(9); return at(a.X+step*way.X, a.Y+step*way.Y) }
			checkCross(t, on(), on(), on(), on())
			checkCross(t, on(), on(), on(), drawn())
		}
	}
}

func TestCrossTellsOneSpotOneWay(t *testing.T) {
	_, first, _ := impl.Cross(at(0, 0), at(3, 1), at(0, 1), at(3, 0))
	_, second, _ := impl.Cross(at(1, -9), at(2, 10), at(-3, -1), at(6, 2))
	if !slices.Equal(first, second) || len(first) != 1 {
		t.Error("one spot of two pairs of segments:", first, second)
	}
}
