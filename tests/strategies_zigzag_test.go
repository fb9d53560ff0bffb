package tests

import (
	"fmt"
	"math/rand"
	"slices"
	"testing"

	"loop.example/g00056/impl"
)

// stop: where the tool goes down, and how far.
type stop struct{ x, y, z int }

// movesTo: the moves of a zigzag that goes down at these stops.
func movesTo(stops ...stop) []impl.Move {
	moves, y := []impl.Move{fast(0, 0, 24)}, 0
	for _, s := range stops {
		moves = append(moves, fast(s.x, y, 24), fast(s.x, s.y, 24), to(s.x, s.y, s.z), fast(s.x, s.y, 24))
		y = s.y
	}
	return moves
}

// levelNumber: counted from 0 up: the last level, or a whole number of steps below the top.
func levelNumber(z, step int) bool { return z == 0 || z < 24 && (24-z)%step == 0 }

// order is less for what comes ahead: levels ahead of what is behind them, the
// higher one first, then by rows, the odd ones of a level backwards.
func (s stop) order(step int) []int {
	switch {
	case !levelNumber(s.z, step):
		return []int{1, s.y, s.x}
	case s.y%2 == 1:
		return []int{0, -s.z, s.y, -s.x}
	}
	return []int{0, -s.z, s.y, s.x}
}

// possibleStops: column by column, put in order when they are all there.
func possibleStops(part impl.Field, r, step int) []stop {
	var stops []stop
	for i := range part.Tops {
		x, y := i%part.W, i/part.W
		lowest := lowestAt(part, r, x, y)
		for z := lowest; z <= 24; z++ {
			if levelNumber(z, step) || z == lowest {
				stops = append(stops, stop{x, y, z})
			}
		}
	}
	slices.SortFunc(stops, func(a, b stop) int { return slices.Compare(a.order(step), b.order(step)) })
	return stops
}

// exactStops: a stop takes something if, of one of its columns, the unit just
// above it is there and none of the stops ahead has it.
func exactStops(stock, part impl.Field, r, step int) []stop {
	var taking []stop
	all := possibleStops(part, r, step)
	for number, s := range all {
		for i, top := range stock.Tops {
			x, y := i%stock.W, i/stock.W
			if top <= s.z || !takes(r, s.x, s.y, x, y) {
				continue
			}
			ahead := func(b stop) bool { return b.z <= s.z && takes(r, b.x, b.y, x, y) }
			if !slices.ContainsFunc(all[:number], ahead) {
				taking = append(taking, s)
				break
			}
		}
	}
	return taking
}

func exactZigzag(stock, part impl.Field, r, step int) ([]impl.Move, int) {
	if exactMillCode(stock, part, r, 0) != impl.OK || step < 1 || step > 24 {
		return nil, impl.ErrBad
	}
	moves := movesTo(exactStops(stock, part, r, step)...)
	if len(moves) > 2000 {
		return nil, impl.ErrFull
	}
	return moves, impl.OK
}

// lowerOf: the floor, or the stock where it is lower.
func lowerOf(stock, floor impl.Field) impl.Field {
	left := level(stock.W, stock.H, 0)
	for i := range left.Tops {
		left.Tops[i] = min(stock.Tops[i], floor.Tops[i])
	}
	return left
}

// checkMilledWhole: the moves can all be made, and leave just what the tool can not take.
func checkMilledWhole(t *testing.T, stock, part impl.Field, r, step int, moves []impl.Move) {
	t.Helper()
	floor, _ := impl.Floor(part, r)
	want := lowerOf(stock, floor)
	got := impl.Mill(stock, part, r, moves)
	cut, _ := impl.Rest(stock, want)
	if got.Code != impl.OK || !sameField(got.Field, want) || got.Cut != cut || got.Depth != min(1, cut) {
		t.Fatal("Zigzag", short(stock), short(part), r, step, short(moves), "leaves", short(got), "not", short(want))
	}
	again, code := impl.Zigzag(got.Field, part, r, step)
	if code != impl.OK || !slices.Equal(again, movesTo()) {
		t.Fatal("Zigzag", short(got.Field), short(part), r, step, "once more", short(again), code)
	}
}

// checkEachTakes: each time the tool goes down it takes something.
func checkEachTakes(t *testing.T, stock, part impl.Field, r int, moves []impl.Move) {
	t.Helper()
	cut := 0
	for next := 5; next <= len(moves); next += 4 {
		got := impl.Mill(stock, part, r, moves[:next])
		if got.Code != impl.OK || got.Cut <= cut {
			t.Fatal("Zigzag", short(stock), short(part), r, short(moves), "takes nothing ahead of", next)
		}
		cut = got.Cut
	}
}

func checkZigzag(t *testing.T, stock, part impl.Field, r, step int) ([]impl.Move, int) {
	t.Helper()
	moves, code := impl.Zigzag(stock, part, r, step)
	want, wantCode := exactZigzag(stock, part, r, step)
	if code != wantCode || !slices.Equal(moves, want) {
		t.Fatal("Zigzag", short(stock), short(part), r, step, short(moves), code, "not", short(want), wantCode)
	}
	if code == impl.OK {
		checkMilledWhole(t, stock, part, r, step, moves)
	}
	return moves, code
}

func checkStops(t *testing.T, stock, part impl.Field, r, step int, stops ...stop) {
	t.Helper()
	if moves, code := checkZigzag(t, stock, part, r, step); code != impl.OK || !slices.Equal(moves, movesTo(stops...)) {
		t.Error("Zigzag", short(stock), short(part), r, step, short(moves), code, "not", short(stops))
	}
}

// checkNoZigzag: that code, and nothing else.
func checkNoZigzag(t *testing.T, stock, part impl.Field, r, step, code int) {
	t.Helper()
	if moves, got := impl.Zigzag(stock, part, r, step); len(moves) != 0 || got != code {
		t.Error("Zigzag", short(stock), short(part), r, step, short(moves), got, "not", code)
	}
}

// Every move written out: two rows, two levels, and one lowest place behind them.
func TestZigzagMoveByMove(t *testing.T) {
	moves, code := impl.Zigzag(field("66", "66"), field("06", "35"), 0, 19)
	want := []impl.Move{
		{Fast: true, X: 0, Y: 0, Z: 24},
		// The level 5: to and fro.
		{Fast: true, X: 0, Y: 0, Z: 24}, {Fast: true, X: 0, Y: 0, Z: 24}, {X: 0, Y: 0, Z: 5}, {Fast: true, X: 0, Y: 0, Z: 24},
		{Fast: true, X: 1, Y: 0, Z: 24}, {Fast: true, X: 1, Y: 1, Z: 24}, {X: 1, Y: 1, Z: 5}, {Fast: true, X: 1, Y: 1, Z: 24},
		{Fast: true, X: 0, Y: 1, Z: 24}, {Fast: true, X: 0, Y: 1, Z: 24}, {X: 0, Y: 1, Z: 5}, {Fast: true, X: 0, Y: 1, Z: 24},
		// The level 0.
		{Fast: true, X: 0, Y: 1, Z: 24}, {Fast: true, X: 0, Y: 0, Z: 24}, {X: 0, Y: 0, Z: 0}, {Fast: true, X: 0, Y: 0, Z: 24},
		// Of the lowest places 3 alone is no level's number that would take.
		{Fast: true, X: 0, Y: 0, Z: 24}, {Fast: true, X: 0, Y: 1, Z: 24}, {X: 0, Y: 1, Z: 3}, {Fast: true, X: 0, Y: 1, Z: 24},
	}
	if code != impl.OK || !slices.Equal(moves, want) {
		t.Error("Zigzag", moves, code)
	}
}

func TestZigzagsTold(t *testing.T) {
	for _, c := range []struct {
		stock, part impl.Field
		r, step     int
		stops       []stop
	}{
		// A flat part, to and fro, by each tool: what a place ahead has taken is not gone to again.
		{level(3, 3, 1), level(3, 3, 0), 0, 24, []stop{{0, 0, 0}, {1, 0, 0}, {2, 0, 0}, {2, 1, 0}, {1, 1, 0}, {0, 1, 0}, {0, 2, 0}, {1, 2, 0}, {2, 2, 0}}},
		{level(3, 3, 1), level(3, 3, 0), 1, 24, []stop{{0, 0, 0}, {1, 0, 0}, {2, 0, 0}, {2, 1, 0}, {1, 1, 0}, {0, 1, 0}}},
		{level(3, 3, 1), level(3, 3, 0), 2, 24, []stop{{0, 0, 0}, {1, 0, 0}, {2, 0, 0}}},
		{level(3, 3, 1), level(3, 3, 0), 3, 24, []stop{{0, 0, 0}}},
		{level(8, 1, 1), level(8, 1, 0), 1, 24, []stop{{0, 0, 0}, {1, 0, 0}, {2, 0, 0}, {3, 0, 0}, {4, 0, 0}, {5, 0, 0}, {6, 0, 0}}},
		{level(8, 1, 1), level(8, 1, 0), 3, 24, []stop{{0, 0, 0}, {1, 0, 0}, {2, 0, 0}, {3, 0, 0}, {4, 0, 0}}},
		{level(1, 4, 1), level(1, 4, 0), 2, 24, []stop{{0, 0, 0}, {0, 1, 0}}},
		// Several levels, of which the highest ones may be above the stock.
		{field("999"), field("000"), 1, 20, []stop{{0, 0, 4}, {1, 0, 4}, {0, 0, 0}, {1, 0, 0}}},
		{field("494"), field("000"), 0, 20, []stop{{1, 0, 4}, {0, 0, 0}, {1, 0, 0}, {2, 0, 0}}},
		{field("494"), field("000"), 2, 20, []stop{{0, 0, 4}, {0, 0, 0}}},
		{field("33"), field("00"), 0, 6, []stop{{0, 0, 0}, {1, 0, 0}}},
		{field("oo"), field("00"), 0, 6, []stop{{0, 0, 18}, {1, 0, 18}, {0, 0, 12}, {1, 0, 12}, {0, 0, 6}, {1, 0, 6}, {0, 0, 0}, {1, 0, 0}}},
		{field("oo"), field("00"), 1, 7, []stop{{0, 0, 17}, {0, 0, 10}, {0, 0, 3}, {0, 0, 0}}},
		// Lowest places between the levels 4 and 0; 0 itself is a level's number.
		{field("9999"), field("1200"), 1, 20, []stop{{0, 0, 4}, {1, 0, 4}, {2, 0, 4}, {3, 0, 0}, {0, 0, 2}}},
		{field("9999"), field("1200"), 0, 20, []stop{{0, 0, 4}, {1, 0, 4}, {2, 0, 4}, {3, 0, 4}, {2, 0, 0}, {3, 0, 0}, {0, 0, 1}, {1, 0, 2}}},
		{field("9999"), field("1240"), 0, 20, []stop{{0, 0, 4}, {1, 0, 4}, {2, 0, 4}, {3, 0, 4}, {3, 0, 0}, {0, 0, 1}, {1, 0, 2}}},
		// Above all levels, where the stock is; as high as the stock, and as high as space.
		{field("99"), field("79"), 0, 24, []stop{{0, 0, 7}}},
		{field("oo"), field("no"), 0, 24, []stop{{0, 0, 23}}},
		{field("oo"), field("no"), 1, 24, nil},
		{field("oo"), field("no"), 0, 1, []stop{{0, 0, 23}}},
		// Behind all levels each row goes to the right, the odd ones too.
		{field("99", "99", "99"), field("00", "35", "21"), 0, 24, []stop{{0, 0, 0}, {1, 0, 0}, {0, 1, 3}, {1, 1, 5}, {0, 2, 2}, {1, 2, 1}}},
		{level(2, 2, 9), field("33", "33"), 0, 24, []stop{{0, 0, 3}, {1, 0, 3}, {0, 1, 3}, {1, 1, 3}}},
		{level(2, 2, 9), field("33", "33"), 1, 24, []stop{{0, 0, 3}, {1, 0, 3}}},
		{level(2, 2, 9), field("33", "33"), 1, 21, []stop{{0, 0, 3}, {1, 0, 3}}},
		{level(2, 2, 9), field("33", "33"), 0, 21, []stop{{0, 0, 3}, {1, 0, 3}, {1, 1, 3}, {0, 1, 3}}},
		// A pit that the tool does not fit in, and one that it does.
		{level(3, 3, 9), field("666", "606", "666"), 1, 18, []stop{{0, 0, 6}, {1, 0, 6}, {2, 0, 6}, {2, 1, 6}, {1, 1, 6}, {0, 1, 6}}},
		{level(3, 3, 9), field("969", "606", "969"), 1, 18, []stop{{1, 1, 6}}},
		{level(3, 3, 9), field("909", "000", "909"), 1, 18, []stop{{1, 1, 6}, {1, 1, 0}}},
		{level(3, 3, 9), field("909", "000", "909"), 1, 10, []stop{{1, 1, 4}, {1, 1, 0}}},
	} {
		checkStops(t, c.stock, c.part, c.r, c.step, c.stops...)
	}
}

// A stock that is the part, or nowhere above what the tool can take.
func TestZigzagsOfNothingToTake(t *testing.T) {
	for _, stock := range []impl.Field{level(1, 1, 0), level(1, 1, 24), field("39", "17"), level(24, 24, 0), level(24, 24, 24), level(1, 24, 5), level(24, 1, 23)} {
		for r := range 4 {
			for step := 1; step <= 24; step++ {
				if moves, code := impl.Zigzag(stock, stock, r, step); code != impl.OK || !slices.Equal(moves, []impl.Move{fast(0, 0, 24)}) {
					t.Error("Zigzag", short(stock), r, step, short(moves), code)
				}
			}
		}
	}
	for step := 1; step <= 24; step++ {
		checkStops(t, level(3, 3, 6), field("666", "606", "666"), 1, step)
	}
}

func downFrom(first, by int) []int {
	var levels []int
	for z := first; z >= 0; z -= by {
		levels = append(levels, z)
	}
	return levels
}

// One column, from each height to each one below it: by the levels between
// them, and behind these by its own.
func TestZigzagLevelsOfEachStep(t *testing.T) {
	for step, levels := range map[int][]int{
		1: downFrom(23, 1), 2: downFrom(22, 2), 3: {21, 18, 15, 12, 9, 6, 3, 0}, 4: {20, 16, 12, 8, 4, 0}, 5: {19, 14, 9, 4, 0}, 6: {18, 12, 6, 0}, 7: {17, 10, 3, 0}, 8: {16, 8, 0}, 9: {15, 6, 0}, 10: {14, 4, 0}, 11: {13, 2, 0},
		12: {12, 0}, 13: {11, 0}, 14: {10, 0}, 15: {9, 0}, 16: {8, 0}, 17: {7, 0}, 18: {6, 0}, 19: {5, 0}, 20: {4, 0}, 21: {3, 0}, 22: {2, 0}, 23: {1, 0}, 24: {0},
	} {
		for high := range 25 {
			for low := range high + 1 {
				var stops []stop
				for _, z := range levels {
					if low <= z && z < high {
						stops = append(stops, stop{0, 0, z})
					}
				}
				if low < high && !slices.Contains(levels, low) {
					stops = append(stops, stop{0, 0, low})
				}
				checkStops(t, level(1, 1, high), level(1, 1, low), (high+low)%4, step, stops...)
			}
		}
	}
}

func TestZigzagsOfAllSmallStocks(t *testing.T) {
	for _, size := range [][2]int{{1, 2}, {2, 2}, {3, 1}, {4, 1}, {1, 4}} {
		count := size[0] * size[1]
		eachList([]int{0, 1, 3}, count, func(tops []int) {
			if len(tops) != count {
				return
			}
			for more := range 1 << count {
				part := impl.Field{W: size[0], H: size[1], Tops: tops}
				stock := impl.Field{W: size[0], H: size[1], Tops: slices.Clone(tops)}
				for i := range stock.Tops {
					stock.Tops[i] += 2 * (more >> i & 1)
				}
				for r := range 4 {
					for _, step := range []int{2, 20, 21, 22, 23, 24} {
						checkZigzag(t, stock, part, r, step)
					}
				}
			}
		})
	}
}

func TestZigzagsOfDrawnStocks(t *testing.T) {
	draw := rand.New(rand.NewSource(20))
	stops, behind := 0, 0
	for range 1500 {
		stock, part := drawnStock(draw, 1+draw.Intn(6), 1+draw.Intn(6))
		r, step := draw.Intn(4), 1+draw.Intn(24)
		moves, code := checkZigzag(t, stock, part, r, step)
		if code != impl.OK {
			t.Fatal("Zigzag", short(stock), short(part), r, step, code)
		}
		checkEachTakes(t, stock, part, r, moves)
		stops += len(moves) / 4
		if last := moves[max(0, len(moves)-2)]; !last.Fast && !levelNumber(last.Z, step) {
			behind++
		}
	}
	if stops < 10000 || behind < 200 {
		t.Error("the stocks are poor", stops, behind)
	}
}

func TestZigzagsOnWideFields(t *testing.T) {
	draw := rand.New(rand.NewSource(21))
	codes := map[int]int{}
	for range 60 {
		stock, part := drawnStock(draw, 24-draw.Intn(6), 24-draw.Intn(12))
		r, step := draw.Intn(1+draw.Intn(4)), 1+draw.Intn(1+draw.Intn(24))
		moves, code := impl.Zigzag(stock, part, r, step)
		codes[code]++
		if code == impl.OK {
			checkMilledWhole(t, stock, part, r, step, moves)
		} else if len(moves) != 0 || code != impl.ErrFull {
			t.Fatal("Zigzag", short(stock), short(part), r, step, short(moves), code)
		}
	}
	if codes[impl.OK] < 10 || codes[impl.ErrFull] < 10 {
		t.Error("the stocks are poor", codes)
	}
	for range 6 {
		stock, part := drawnStock(draw, 24, 24)
		checkZigzag(t, stock, part, 1+draw.Intn(3), 8+draw.Intn(17))
	}
	for r := 1; r <= 3; r++ {
		checkZigzag(t, level(24, 24, 24), level(24, 24, 0), r, 24)
		checkZigzag(t, level(24, 1, 24), level(24, 1, 0), r, 3)
		checkZigzag(t, level(1, 24, 24), level(1, 24, 0), r, 5)
	}
}

// someColumns: a field of 24 by 24 with so many columns of that height, the first ones.
func someColumns(count, top int) impl.Field {
	f := level(24, 24, 0)
	copy(f.Tops, allOf(top, count))
	return f
}

// Four moves a stop: 499 stops make 1997 moves, one more would make 2001.
func TestZigzagsByTheirMoves(t *testing.T) {
	flat := level(24, 24, 0)
	for _, c := range []struct {
		stock, part impl.Field
		step, moves int
	}{
		{someColumns(1, 1), flat, 24, 5}, {someColumns(498, 1), flat, 24, 1993}, {someColumns(499, 1), flat, 24, 1997}, {someColumns(500, 1), flat, 24, 0}, {someColumns(501, 1), flat, 24, 0}, {someColumns(576, 24), flat, 24, 0}, {someColumns(576, 24), flat, 1, 0},
		// On several levels, and with lowest places behind them.
		{someColumns(249, 24), flat, 12, 1993}, {someColumns(250, 24), flat, 12, 0}, {someColumns(20, 24), flat, 1, 1921}, {someColumns(21, 24), flat, 1, 0},
		{someColumns(499, 9), someColumns(499, 3), 24, 1997}, {someColumns(500, 9), someColumns(500, 3), 24, 0}, {someColumns(249, 24), someColumns(249, 3), 12, 1993}, {someColumns(250, 24), someColumns(250, 3), 12, 0},
		{someColumns(499, 9), someColumns(250, 3), 24, 1997}, {someColumns(500, 9), someColumns(250, 3), 24, 0}, {someColumns(500, 9), someColumns(1, 9), 24, 1997}, {someColumns(576, 9), someColumns(77, 9), 24, 1997}, {someColumns(576, 9), someColumns(76, 9), 24, 0},
	} {
		code := impl.OK
		if c.moves == 0 {
			code = impl.ErrFull
		}
		moves, got := impl.Zigzag(c.stock, c.part, 0, c.step)
		if got != code || len(moves) != c.moves {
			t.Error("Zigzag", short(c.stock), short(c.part), c.step, len(moves), got, "not", c.moves, code)
		}
		if got == impl.OK {
			checkMilledWhole(t, c.stock, c.part, 0, c.step, moves)
		}
	}
}

func TestZigzagsThatAreWrong(t *testing.T) {
	stock, part := level(3, 2, 5), level(3, 2, 4)
	numbers := []int{least, least + 1, -1 << 32, -24, -4, -3, -2, -1, 0, 1, 2, 3, 4, 5, 12, 23, 24, 25, 26, 48, 1 << 31, 1 << 32, 1<<32 + 1, greatest - 1, greatest}
	for _, r := range numbers {
		for _, step := range numbers {
			checkNoZigzag(t, part, stock, r, step, impl.ErrBad)
			checkNoZigzag(t, impl.Field{}, stock, r, step, impl.ErrBad)
			if r >= 0 && r <= 3 && step >= 1 && step <= 24 {
				checkZigzag(t, stock, part, r, step)
				continue
			}
			checkNoZigzag(t, stock, part, r, step, impl.ErrBad)
			// Ahead of the moves that would be too many.
			checkNoZigzag(t, level(24, 24, 24), level(24, 24, 0), r, step, impl.ErrBad)
		}
	}
	// One column of the part: as high as the stock's, and above it.
	for place := range 6 {
		for top := range 25 {
			higher := level(3, 2, 4)
			higher.Tops[place] = top
			checkZigzag(t, stock, higher, 1, 7)
			if top > 5 {
				checkNoZigzag(t, stock, higher, 0, 1, impl.ErrBad)
			}
		}
	}
	for _, pair := range [][2]impl.Field{{level(3, 2, 5), level(2, 3, 5)}, {level(3, 2, 5), level(6, 1, 5)}, {level(24, 24, 24), level(24, 23, 0)}, {level(24, 24, 24), level(23, 24, 0)}, {level(25, 1, 1), level(25, 1, 0)}, {level(1, 25, 1), level(1, 25, 0)}} {
		checkNoZigzag(t, pair[0], pair[1], 0, 24, impl.ErrBad)
		checkNoZigzag(t, pair[1], pair[0], 3, 1, impl.ErrBad)
	}
}

func TestStrategyAnswersAreNewMemory(t *testing.T) {
	behind := []int{77, 88}
	for _, rows := range [][2]impl.Field{
		{field("999", "999"), field("149", "903")}, {field("999", "999"), field("999", "999")}, {field("149", "903"), field("999", "999")}, {level(24, 24, 24), level(24, 24, 0)}, {level(3, 2, 25), level(3, 2, 0)},
	} {
		stockArray, partArray := append(slices.Clone(rows[0].Tops), behind...), append(slices.Clone(rows[1].Tops), behind...)
		stock, part := rows[0], rows[1]
		stock.Tops, part.Tops = stockArray[:len(stockArray)-2], partArray[:len(partArray)-2]
		for r := -1; r <= 4; r++ {
			all := func() string {
				moves, code := impl.Zigzag(stock, part, r, 9)
				corners, cornerCode := impl.Contour(part, 3*r)
				told := fmt.Sprint(moves, code, corners, cornerCode)
				clear(moves[:cap(moves)])
				clear(corners[:cap(corners)])
				return told
			}
			first := all()
			if again := all(); again != first {
				t.Error("answers share memory", short(stock), short(part), r, short(first), short(again))
			}
		}
		if !slices.Equal(stockArray, append(slices.Clone(rows[0].Tops), behind...)) || !slices.Equal(partArray, append(slices.Clone(rows[1].Tops), behind...)) {
			t.Error("an argument was changed", short(stockArray), short(partArray))
		}
	}
}

// strategyCalls: calls of every function of the layer, right, at an edge and wrong.
func strategyCalls() []func() string {
	var calls []func() string
	tell := func(call func() string) { calls = append(calls, call) }
	fields := []impl.Field{field("555", "555"), field("114", "114"), field("550", "505", "555"), level(24, 24, 24), level(24, 24, 0), level(25, 1, 0), {}, {W: greatest, H: least, Tops: []int{1}}, {W: 1, H: 1, Tops: []int{25}}}
	for _, a := range fields {
		for _, z := range []int{least, -1, 0, 1, 4, 5, 23, 24, greatest} {
			tell(func() string { return fmt.Sprint(impl.Contour(a, z)) })
		}
		for _, b := range fields {
			for r := -1; r <= 4; r++ {
				for _, step := range []int{least, 0, 1, 7, 24, 25, greatest} {
					tell(func() string { return fmt.Sprint(impl.Zigzag(a, b, r, step)) })
				}
			}
		}
	}
	return calls
}
