package tests

import (
	"math/rand"
	"slices"
	"strings"
	"testing"

	"loop.example/g00056/impl"
)

// platesTold reads "4x3 2x2": W and H of each.
func platesTold(t *testing.T, told string) []impl.Plate {
	t.Helper()
	var list []impl.Plate
	for _, word := range strings.Fields(told) {
		var p impl.Plate
		scan(t, word, "%dx%d", &p.W, &p.H)
		list = append(list, p)
	}
	return list
}

// spotsTold reads "0:4,3 2:0,0t": the plate's number, X and Y, turned or not.
func spotsTold(t *testing.T, told string) []impl.Spot2 {
	t.Helper()
	var list []impl.Spot2
	for _, word := range strings.Fields(told) {
		var s impl.Spot2
		word, s.Turned = strings.CutSuffix(word, "t")
		scan(t, word, "%d:%d,%d", &s.Plate, &s.X, &s.Y)
		list = append(list, s)
	}
	return list
}

func plateTurned(p impl.Plate) impl.Plate { return impl.Plate{W: p.H, H: p.W} }

// sizeLaid: the plate as it lies at a spot.
func sizeLaid(plates []impl.Plate, s impl.Spot2) impl.Plate {
	if s.Turned {
		return plateTurned(plates[s.Plate])
	}
	return plates[s.Plate]
}

// tiles is a strip cell by cell, row upon row.
type tiles struct {
	width int
	rows  [][]bool
}

func (c *tiles) free(x, y int, p impl.Plate) bool {
	for row := y; row < y+p.H && row < len(c.rows); row++ {
		if slices.Contains(c.rows[row][x:x+p.W], true) {
			return false
		}
	}
	return true
}

func (c *tiles) fill(x, y int, p impl.Plate) {
	for len(c.rows) < y+p.H {
		c.rows = append(c.rows, make([]bool, c.width))
	}
	for row := y; row < y+p.H; row++ {
		for column := x; column < x+p.W; column++ {
			c.rows[row][column] = true
		}
	}
}

// lay tries place by place, from the lowest row on, in it from the left.
func (c *tiles) lay(p impl.Plate) (int, int) {
	for y := 0; ; y++ {
		for x := 0; x+p.W <= c.width; x++ {
			if c.free(x, y, p) {
				c.fill(x, y, p)
				return x, y
			}
		}
	}
}

// exactLaid: where plates come to lie, spots telling their order and which are turned.
func exactLaid(width int, plates []impl.Plate, ways []impl.Spot2) ([]impl.Spot2, int) {
	c := tiles{width: width}
	var spots []impl.Spot2
	for _, s := range ways {
		s.X, s.Y = c.lay(sizeLaid(plates, s))
		spots = append(spots, s)
	}
	return spots, len(c.rows)
}

func exactNest(width int, plates []impl.Plate) ([]impl.Spot2, int) {
	var ways []impl.Spot2
	for i, p := range plates {
		ways = append(ways, impl.Spot2{Plate: i, Turned: p.W > width})
	}
	return exactLaid(width, plates, ways)
}

func exactNestCode(width int, plates []impl.Plate) int {
	if len(plates) > impl.MaxList {
		return impl.ErrLong
	}
	wrong := func(n int) bool { return n < 1 || n > longest }
	if wrong(width) || len(plates) > 100 {
		return impl.ErrBad
	}
	for _, p := range plates {
		if wrong(p.W) || wrong(p.H) {
			return impl.ErrBad
		}
	}
	for _, p := range plates {
		if p.W > width && p.H > width {
			return impl.ErrRange
		}
	}
	return impl.OK
}

func overlap(a impl.Spot2, sizeA impl.Plate, b impl.Spot2, sizeB impl.Plate) bool {
	beside := a.X+sizeA.W <= b.X || b.X+sizeB.W <= a.X
	above := a.Y+sizeA.H <= b.Y || b.Y+sizeB.H <= a.Y
	return !beside && !above
}

// checkLies: each plate once, within the strip and over no other one, and the
// strip is just as high as the highest of them.
func checkLies(t *testing.T, width int, plates []impl.Plate, spots []impl.Spot2, high int) {
	t.Helper()
	if len(spots) != len(plates) {
		t.Fatal("nest", width, short(plates), short(spots))
	}
	told, top := make([]int, len(plates)), 0
	for i, s := range spots {
		if s.Plate < 0 || s.Plate >= len(plates) || told[s.Plate] > 0 {
			t.Fatal("nest", width, short(plates), short(spots), "has twice or has not", s.Plate)
		}
		told[s.Plate]++
		size := sizeLaid(plates, s)
		top = max(top, s.Y+size.H)
		if s.X < 0 || s.Y < 0 || s.X+size.W > width {
			t.Fatal("nest", width, short(plates), s, "is beyond the strip")
		}
		for _, other := range spots[:i] {
			if overlap(s, size, other, sizeLaid(plates, other)) {
				t.Fatal("nest", width, short(plates), s, "lies over", other)
			}
		}
	}
	if high != top {
		t.Fatal("nest", width, short(plates), short(spots), high, "not", top)
	}
}

func checkNest(t *testing.T, width int, plates []impl.Plate) ([]impl.Spot2, int) {
	t.Helper()
	spots, high, code := impl.Nest(width, plates)
	if code != impl.OK {
		t.Fatal("Nest", width, short(plates), short(spots), high, code)
	}
	checkLies(t, width, plates, spots, high)
	for i, s := range spots {
		if s.Plate != i || s.Turned != (plates[i].W > width) {
			t.Fatal("Nest", width, short(plates), s, "is not the plate", i, "or wrongly turned")
		}
	}
	if want, wantHigh := exactNest(width, plates); !slices.Equal(spots, want) || high != wantHigh {
		t.Fatal("Nest", width, short(plates), short(spots), high, "not", short(want), wantHigh)
	}
	return spots, high
}

func TestNestsTold(t *testing.T) {
	for _, c := range []struct {
		width         int
		plates, spots string
		high          int
	}{
		{7, "", "", 0}, {1, "1x1", "0:0,0", 1}, {7, "3x2", "0:0,0", 2}, {7, "7x2", "0:0,0", 2}, {7, "2x7", "0:0,0", 7}, {7, "7x7", "0:0,0", 7},
		// beside one another as long as there is room, then above
		{7, "3x2 3x2", "0:0,0 1:3,0", 2}, {7, "3x2 4x2", "0:0,0 1:3,0", 2}, {7, "3x2 5x2", "0:0,0 1:0,2", 4}, {7, "3x2 3x2 3x2", "0:0,0 1:3,0 2:0,2", 4}, {6, "1x1 1x1 1x1 1x1 1x1 1x1 1x1", "0:0,0 1:1,0 2:2,0 3:3,0 4:4,0 5:5,0 6:0,1", 2},
		{1, "1x1 1x2 1x1", "0:0,0 1:0,1 2:0,3", 4}, {1, "1x1 2x1 1x1", "0:0,0 1:0,1t 2:0,3", 4},
		// turned just where it is wider than the strip
		{6, "4x3 3x2 2x2 8x1", "0:0,0 1:0,3 2:4,0 3:4,2t", 10}, {6, "6x1 1x6", "0:0,0 1:0,1", 7}, {6, "7x1 1x7", "0:0,0t 1:1,0", 7}, {6, "7x6", "0:0,0t", 7}, {6, "6x7", "0:0,0", 7}, {6, "6x6", "0:0,0", 6}, {3, "1000x3 1000x1", "0:0,0t 1:0,1000t", 2000}, {6, "5x1 1x5 2x1", "0:0,0 1:5,0 2:0,1", 5},
		// the lowest place, not the leftmost one
		{5, "2x3 3x1 3x1 1x1", "0:0,0 1:2,0 2:2,1 3:2,2", 3}, {5, "2x3 3x1 2x1 1x1", "0:0,0 1:2,0 2:2,1 3:4,1", 3}, {5, "1x3 3x1 1x2 1x1", "0:0,0 1:1,0 2:4,0 3:1,1", 3},
		// the leftmost of places that are as low
		{6, "1x1 1x2 1x1 1x2 1x1 1x1 1x1 1x1 1x1", "0:0,0 1:1,0 2:2,0 3:3,0 4:4,0 5:5,0 6:0,1 7:2,1 8:4,1", 2}, {6, "2x2 2x1 2x2 1x1 1x1 1x1", "0:0,0 1:2,0 2:4,0 3:2,1 4:3,1 5:0,2", 3},
		// down into a hole below what lies already, and past one that is too small
		{4, "2x3 4x1 2x3", "0:0,0 1:0,3 2:2,0", 4}, {4, "2x3 4x1 2x2 2x1", "0:0,0 1:0,3 2:2,0 3:2,2", 4}, {4, "2x3 4x1 2x4", "0:0,0 1:0,3 2:0,4", 8}, {4, "2x3 4x1 3x1", "0:0,0 1:0,3 2:0,4", 5}, {4, "2x3 4x1 1x3 1x3", "0:0,0 1:0,3 2:2,0 3:3,0", 4}, {4, "2x3 4x1 1x4 1x3", "0:0,0 1:0,3 2:0,4 3:2,0", 8},
		{5, "1x2 4x1 5x1 4x1", "0:0,0 1:1,0 2:0,2 3:1,1", 3}, {5, "1x2 4x1 5x1 4x2", "0:0,0 1:1,0 2:0,2 3:0,3", 5},
		// below what stands out over it, and between two that stand at either end
		{5, "2x2 1x1 4x1 2x1 3x1", "0:0,0 1:2,0 2:0,2 3:3,0 4:2,1", 3}, {6, "1x4 4x1 1x4 4x3", "0:0,0 1:1,0 2:5,0 3:1,1", 4}, {6, "1x4 4x1 1x4 5x3", "0:0,0 1:1,0 2:5,0 3:0,4", 7}, {6, "1x4 3x1 1x4 4x1", "0:0,0 1:1,0 2:4,0 3:0,4", 5}, {6, "1x4 3x1 1x4 1x5 4x1", "0:0,0 1:1,0 2:4,0 3:5,0 4:0,4", 5},
		// past several plates in one row, the highest first and the lowest first
		{9, "2x3 2x2 2x1 3x1 2x1 2x1", "0:0,0 1:2,0 2:4,0 3:6,0 4:4,1 5:6,1", 3}, {9, "2x1 2x2 2x3 3x1 2x1 2x1 2x1", "0:0,0 1:2,0 2:4,0 3:6,0 4:0,1 5:6,1 6:0,2", 3},
		{1000, "1000x1 1x1000 999x1000", "0:0,0 1:0,1 2:1,1", 1001}, {1000, "1x1 1000x1000 999x1", "0:0,0 1:0,1 2:1,0", 1001}, {999, "1000x1 999x1 998x1", "0:0,0t 1:0,1000 2:1,0", 1001},
	} {
		plates := platesTold(t, c.plates)
		spots, high, code := impl.Nest(c.width, plates)
		if want := spotsTold(t, c.spots); code != impl.OK || !slices.Equal(spots, want) || high != c.high {
			t.Error("Nest", c.width, c.plates, spots, high, code, "not", want, c.high)
			continue
		}
		checkNest(t, c.width, plates)
	}
}

// eachPlates gives all lists of so many plates, each side at most so long.
func eachPlates(count, most int, give func([]impl.Plate)) {
	list := make([]impl.Plate, count)
	kinds := most * most
	all := 1
	for range count {
		all *= kinds
	}
	for code := range all {
		for i := range list {
			list[i] = impl.Plate{W: 1 + code%kinds%most, H: 1 + code%kinds/most}
			code /= kinds
		}
		give(list)
	}
}

func TestNestsOfAllSmallPlates(t *testing.T) {
	codes := map[int]int{}
	for _, size := range [][2]int{{0, 1}, {1, 5}, {2, 4}, {3, 3}, {4, 2}, {5, 2}} {
		for width := 1; width <= 6; width++ {
			eachPlates(size[0], size[1], func(plates []impl.Plate) {
				code := exactNestCode(width, plates)
				codes[code]++
				checkNested(t, width, plates, code)
			})
		}
	}
	if codes[impl.OK] < 5000 || codes[impl.ErrRange] < 1000 || len(codes) != 2 {
		t.Error("codes", codes)
	}
}

// checkNested: Nest answers that code, and nothing with it but for OK.
func checkNested(t *testing.T, width int, plates []impl.Plate, code int) {
	t.Helper()
	if want := exactNestCode(width, plates); want != code {
		t.Fatal("the case itself is wrong", width, short(plates), want, code)
	}
	if code == impl.OK {
		checkNest(t, width, plates)
		return
	}
	if spots, high, got := impl.Nest(width, plates); len(spots) != 0 || high != 0 || got != code {
		t.Error("Nest", width, short(plates), short(spots), high, got, "not", code)
	}
}

func drawnPlates(draw *rand.Rand, count, most, width int) []impl.Plate {
	var list []impl.Plate
	for range count {
		p := impl.Plate{W: 1 + draw.Intn(most), H: 1 + draw.Intn(most)}
		if p.W > width && p.H > width {
			p.W = 1 + draw.Intn(width)
		}
		list = append(list, p)
	}
	return list
}

func TestNestsOfDrawnPlates(t *testing.T) {
	draw := rand.New(rand.NewSource(164))
	turned, holes := 0, 0
	for _, c := range []struct{ times, count, most, width int }{{1500, 12, 4, 9}, {800, 30, 6, 15}, {100, impl.MaxPlates, 5, 30}, {100, impl.MaxPlates, 12, 14}, {20, 15, 90, 120}} {
		for range c.times {
			width := 1 + draw.Intn(c.width)
			plates := drawnPlates(draw, draw.Intn(c.count+1), c.most, width)
			spots, _ := checkNest(t, width, plates)
			for i, s := range spots {
				if s.Turned {
					turned++
				}
				if i > 0 && s.Y < spots[i-1].Y {
					holes++
				}
			}
		}
	}
	if turned < 1000 || holes < 1000 {
		t.Error("turned", turned, "lower than the one ahead", holes)
	}
}

// Plates and strip so many times as large lie at so many times the places.
func TestNestsOfGreaterPlates(t *testing.T) {
	draw := rand.New(rand.NewSource(165))
	for range 400 {
		width := 1 + draw.Intn(20)
		plates := drawnPlates(draw, draw.Intn(25), 20, width)
		spots, high := checkNest(t, width, plates)
		times := longest / 20
		for i := range plates {
			plates[i].W, plates[i].H = plates[i].W*times, plates[i].H*times
			spots[i].X, spots[i].Y = spots[i].X*times, spots[i].Y*times
		}
		if got, gotHigh, code := impl.Nest(width*times, plates); code != impl.OK || !slices.Equal(got, spots) || gotHigh != high*times {
			t.Fatal("Nest", width*times, plates, got, gotHigh, code, "not", spots, high*times)
		}
	}
}

// What lies already does not hang on what comes.
func TestNestsGrow(t *testing.T) {
	draw := rand.New(rand.NewSource(166))
	for range 200 {
		width := 1 + draw.Intn(12)
		plates := drawnPlates(draw, 20, 8, width)
		all, high, _ := impl.Nest(width, plates)
		last := 0
		for count := range plates {
			spots, lower, code := impl.Nest(width, plates[:count])
			if code != impl.OK || !slices.Equal(spots, all[:count]) || lower < last || lower > high {
				t.Fatal("Nest", width, plates[:count], spots, lower, code, "not", all[:count])
			}
			last = lower
		}
	}
}

func sameSize(count, w, h int) []impl.Plate {
	return slices.Repeat([]impl.Plate{{W: w, H: h}}, count)
}

func TestNestsOfTheMostPlates(t *testing.T) {
	const most = impl.MaxPlates
	for _, c := range []struct{ width, w, h, high int }{
		{1, 1, 1, most}, {1, 1, longest, most * longest}, {1, longest, 1, most * longest}, {longest, longest, longest, most * longest}, {longest, 1, longest, longest}, {longest, longest, 1, most}, {longest, 1, 1, 1}, {longest, 10, 7, 7}, {longest, 11, 7, 14}, {most - 1, 1, 3, 6}, {999, longest, 1, longest},
		{longest, 501, 501, most * 501}, {longest, 500, 500, most / 2 * 500}, {longest, 333, 1, 34}, {longest, 334, 1, 50},
	} {
		plates := sameSize(most, c.w, c.h)
		spots, high, code := impl.Nest(c.width, plates)
		if code != impl.OK || high != c.high {
			t.Fatal("Nest", c, high, code)
		}
		checkLies(t, c.width, plates, spots, high)
		size := sizeLaid(plates, spots[0])
		row := c.width / size.W
		for i, s := range spots {
			if s != (impl.Spot2{Plate: i, X: i % row * size.W, Y: i / row * size.H, Turned: c.w > c.width}) {
				t.Fatal("Nest", c, s, "is the plate", i)
			}
		}
		checkNested(t, c.width, sameSize(most+1, c.w, c.h), impl.ErrBad)
	}
}

// badPlates: one side or both are no plate's.
func badPlates() []impl.Plate {
	var list []impl.Plate
	for _, n := range wrongLengths {
		list = append(list, impl.Plate{W: n, H: 1}, impl.Plate{W: 1, H: n}, impl.Plate{W: n, H: n}, impl.Plate{W: n, H: longest})
	}
	return append(list, impl.Plate{W: least, H: greatest}, impl.Plate{W: greatest, H: least})
}

func TestNestCodes(t *testing.T) {
	right := platesTold(t, "4x3 3x2 2x2 8x1")
	for _, width := range wrongLengths {
		checkBothNests(t, width, nil, impl.ErrBad, impl.ErrBad)
		checkBothNests(t, width, right, impl.ErrBad, impl.ErrBad)
		checkBothNests(t, width, platesTold(t, "1000x1000"), impl.ErrBad, impl.ErrBad)
		checkBothNests(t, width, sameSize(6, 9, 9), impl.ErrBad, impl.ErrBad)
	}
	for _, wrong := range badPlates() {
		for place := range right {
			plates := slices.Clone(right)
			plates[place] = wrong
			checkBothNests(t, 6, plates, impl.ErrBad, impl.ErrBad)
			checkBothNests(t, 1, plates, impl.ErrBad, impl.ErrBad)
			checkBothNests(t, longest, append(plates, right...), impl.ErrBad, impl.ErrBad)
		}
		checkBothNests(t, 6, []impl.Plate{wrong}, impl.ErrBad, impl.ErrBad)
		checkBothNests(t, 6, []impl.Plate{{W: 9, H: 9}, wrong}, impl.ErrBad, impl.ErrBad) // ErrBad is ahead of ErrRange
		checkBothNests(t, 6, []impl.Plate{wrong, {W: 9, H: 9}}, impl.ErrBad, impl.ErrBad)
		checkBothNests(t, 6, append(sameSize(impl.MaxList-1, 1, 1), wrong), impl.ErrBad, impl.ErrBad)
		checkBothNests(t, 6, append(sameSize(impl.MaxList, 1, 1), wrong), impl.ErrLong, impl.ErrLong)
	}
	for width := 1; width < 12; width++ {
		for _, p := range []impl.Plate{{W: width, H: width}, {W: width, H: width + 1}, {W: width + 1, H: width}, {W: width, H: longest}, {W: longest, H: width}, {W: longest, H: 1}, {W: 1, H: longest}} {
			checkBothNests(t, width, []impl.Plate{p}, impl.OK, impl.OK)
		}
		for _, p := range []impl.Plate{{W: width + 1, H: width + 1}, {W: width + 1, H: longest}, {W: longest, H: width + 1}, {W: longest, H: longest}} {
			checkBothNests(t, width, []impl.Plate{p}, impl.ErrRange, impl.ErrRange)
			for place := range 4 {
				checkBothNests(t, width, slices.Insert(sameSize(3, 1, 1), place, p), impl.ErrRange, impl.ErrRange)
			}
			checkBothNests(t, width, append(sameSize(impl.MaxPlates-1, 1, 1), p), impl.ErrRange, impl.ErrRange)
			checkBothNests(t, width, append(sameSize(impl.MaxPlates, 1, 1), p), impl.ErrBad, impl.ErrBad)
		}
	}
	checkBothNests(t, longest, sameSize(5, longest, longest), impl.OK, impl.OK)
	checkBothNests(t, longest-1, sameSize(1, longest, longest), impl.ErrRange, impl.ErrRange)
}

func TestNestsByHowMany(t *testing.T) {
	for _, c := range []struct{ count, code, best int }{
		{0, impl.OK, impl.OK}, {1, impl.OK, impl.OK}, {impl.MaxBest - 1, impl.OK, impl.OK}, {impl.MaxBest, impl.OK, impl.OK}, {impl.MaxBest + 1, impl.OK, impl.ErrMany}, {impl.MaxBest + 2, impl.OK, impl.ErrMany}, {impl.MaxPlates - 1, impl.OK, impl.ErrMany}, {impl.MaxPlates, impl.OK, impl.ErrMany},
		{impl.MaxPlates + 1, impl.ErrBad, impl.ErrBad}, {2 * impl.MaxPlates, impl.ErrBad, impl.ErrBad}, {impl.MaxList - 1, impl.ErrBad, impl.ErrBad}, {impl.MaxList, impl.ErrBad, impl.ErrBad}, {impl.MaxList + 1, impl.ErrLong, impl.ErrLong}, {2 * impl.MaxList, impl.ErrLong, impl.ErrLong},
	} {
		checkBothNests(t, 7, sameSize(c.count, 3, 2), c.code, c.best)
		checkBothNests(t, 2, sameSize(c.count, 3, 2), c.code, c.best)
		if c.count == 0 {
			continue
		}
		// with more at fault: what is too long is so, else what is bad, else what is too wide, and last what is too many
		tooWide, bad := impl.ErrRange, impl.ErrBad
		if c.code != impl.OK {
			tooWide, bad = c.code, c.code
		}
		checkBothNests(t, 1, sameSize(c.count, 3, 2), tooWide, tooWide)
		checkBothNests(t, 7, make([]impl.Plate, c.count), bad, bad)
		checkBothNests(t, 0, sameSize(c.count, 3, 2), bad, bad)
		checkBothNests(t, greatest, sameSize(c.count, greatest, least), bad, bad)
	}
}
