package tests

import (
	"math/rand"
	"slices"
	"testing"

	"loop.example/g00056/impl"
)

// takes: the tool that stands at x, y takes of the column u, v.
func takes(r, x, y, u, v int) bool { return (u-x)*(u-x)+(v-y)*(v-y) <= r*r }

func exactField(f impl.Field) bool {
	if f.W < 1 || f.W > 24 || f.H < 1 || f.H > 24 || len(f.Tops) != f.W*f.H {
		return false
	}
	return slices.Min(f.Tops) >= 0 && slices.Max(f.Tops) <= 24
}

// exactMillCode: the codes that are not a move's.
func exactMillCode(stock, part impl.Field, r, moves int) int {
	if moves > impl.MaxList {
		return impl.ErrLong
	}
	if !exactField(stock) || !exactField(part) || stock.W != part.W || stock.H != part.H || r < 0 || r > 3 {
		return impl.ErrBad
	}
	for i := range stock.Tops {
		if part.Tops[i] > stock.Tops[i] {
			return impl.ErrBad
		}
	}
	if moves > impl.MaxMoves {
		return impl.ErrMany
	}
	return impl.OK
}

// solid: the filled cells of each column, by their heights.
type solid map[[3]int]int

func solidOf(f impl.Field) solid {
	cells := solid{}
	for i, top := range f.Tops {
		for z := range top {
			cells[[3]int{i % f.W, i / f.W, z}] = 1
		}
	}
	return cells
}

func (s solid) field(w, h int) impl.Field {
	f := level(w, h, 0)
	for cell := range s {
		f.Tops[cell[1]*w+cell[0]]++
	}
	return f
}

// under: the cells that the tool would take, by their columns.
func (s solid) under(r int, tool [3]int) map[[2]int][][3]int {
	found := map[[2]int][][3]int{}
	for cell := range s {
		if cell[2] >= tool[2] && takes(r, tool[0], tool[1], cell[0], cell[1]) {
			column := [2]int{cell[0], cell[1]}
			found[column] = append(found[column], cell)
		}
	}
	return found
}

// exactMill takes cell by cell; a move that can not be is made on cells that
// are thrown away.
func exactMill(stock, part impl.Field, r int, moves []impl.Move) impl.Milled {
	if code := exactMillCode(stock, part, r, len(moves)); code != impl.OK {
		return impl.Milled{Code: code}
	}
	cells, core, tool, told := solidOf(stock), solidOf(part), [3]int{0, 0, 24}, impl.Milled{}
	for i, move := range moves {
		left, after := solid{}, told
		for cell := range cells {
			left[cell] = 1
		}
		if code := exactMove(left, core, r, tool, move, [2]int{stock.W, stock.H}, &after); code != impl.OK {
			told.Code, told.Bad = code, i
			break
		}
		cells, told, tool = left, after, [3]int{move.X, move.Y, move.Z}
	}
	told.Field = cells.field(stock.W, stock.H)
	return told
}

func exactMove(cells, core solid, r int, tool [3]int, move impl.Move, size [2]int, told *impl.Milled) int {
	end := [3]int{move.X, move.Y, move.Z}
	if end[0] < 0 || end[0] >= size[0] || end[1] < 0 || end[1] >= size[1] || end[2] < 0 || end[2] > 24 {
		return impl.ErrRange
	}
	length, axes := 0, 0
	for axis := range 3 {
		if apart := max(end[axis]-tool[axis], tool[axis]-end[axis]); apart > 0 {
			length, axes = apart, axes+1
		}
	}
	if axes > 1 {
		return impl.ErrState
	}
	for step := min(1, length); step <= length; step++ {
		at := tool
		for axis := range 3 {
			at[axis] += (end[axis] - tool[axis]) * step / max(1, length)
		}
		taken := cells.under(r, at)
		switch {
		case len(core.under(r, at)) > 0:
			return impl.ErrGouge
		case len(taken) > 0 && move.Fast:
			return impl.ErrKind
		case len(taken) == 0 && !move.Fast:
			told.Air++
		}
		for _, column := range taken {
			told.Cut += len(column)
			told.Depth = max(told.Depth, len(column))
			for _, cell := range column {
				delete(cells, cell)
			}
		}
	}
	return impl.OK
}

// checkMill: as cell by cell; what was cut is what the tops are lower by, and
// none is lower than the part, nor, where something was taken, than the floor.
func checkMill(t *testing.T, stock, part impl.Field, r int, moves []impl.Move) impl.Milled {
	t.Helper()
	got := impl.Mill(stock, part, r, moves)
	if want := exactMill(stock, part, r, moves); !sameMilled(got, want) {
		t.Fatal("Mill", short(stock), short(part), r, short(moves), short(got), "not", short(want))
	}
	checkLeft(t, stock, part, r, got)
	return got
}

func checkLeft(t *testing.T, stock, part impl.Field, r int, got impl.Milled) {
	t.Helper()
	if got.Code == impl.ErrBad || got.Code == impl.ErrLong || got.Code == impl.ErrMany {
		if !sameMilled(got, impl.Milled{Code: got.Code}) {
			t.Fatal("Mill", short(got))
		}
		return
	}
	cut, cutCode := impl.Rest(stock, got.Field)
	up, upCode := impl.Rest(got.Field, stock)
	gouged, gougedCode := impl.Rest(part, got.Field)
	if cut != got.Cut || up != 0 || gouged != 0 || cutCode+upCode+gougedCode != impl.OK || !impl.FieldOK(got.Field) {
		t.Fatal("Mill", short(stock), short(part), r, short(got), "cut", cut, "above the stock", up, "below the part", gouged)
	}
	floor, _ := impl.Floor(part, r)
	for i, top := range got.Field.Tops {
		if top < min(stock.Tops[i], floor.Tops[i]) {
			t.Fatal("Mill", short(stock), short(part), r, short(got), "below the floor", short(floor))
		}
	}
}

// checkMoves: the moves, and all that go on with some of the others while they can be.
func checkMoves(t *testing.T, stock, part impl.Field, r int, moves, others []impl.Move, more int, codes map[int]int) {
	t.Helper()
	code := checkMill(t, stock, part, r, moves).Code
	codes[code]++
	if code != impl.OK || more == 0 {
		return
	}
	for _, move := range others {
		checkMoves(t, stock, part, r, append(slices.Clone(moves), move), others, more-1, codes)
	}
}

func TestAllListsOfNearMoves(t *testing.T) {
	near := []impl.Move{to(2, 0, 24), to(0, -1, 25)}
	for x := range 2 {
		for y := range 2 {
			for z := 22; z <= 24; z++ {
				near = append(near, to(x, y, z), fast(x, y, z))
			}
		}
	}
	codes := map[int]int{}
	for _, c := range []struct{ stock, part impl.Field }{
		{field("oo", "oo"), field("mm", "mm")}, {field("oo", "oo"), field("mn", "0m")}, {field("no", "mn"), field("m0", "0n")}, {field("mm", "mo"), field("ll", "lo")},
	} {
		for r := range 4 {
			checkMoves(t, c.stock, c.part, r, nil, near, 3, codes)
		}
	}
	for _, code := range []int{impl.OK, impl.ErrRange, impl.ErrState, impl.ErrGouge, impl.ErrKind} {
		if codes[code] < 100 {
			t.Error("the moves are poor", codes)
		}
	}
}

func drawnField(draw *rand.Rand, w, h, low, high int) impl.Field {
	f := level(w, h, 0)
	for i := range f.Tops {
		f.Tops[i] = low + draw.Intn(high-low+1)
	}
	return f
}

// drawnStock: a part, and a stock that is nowhere below it.
func drawnStock(draw *rand.Rand, w, h int) (impl.Field, impl.Field) {
	low := draw.Intn(21)
	part := drawnField(draw, w, h, low, min(24, low+draw.Intn(5)))
	stock := level(w, h, 0)
	for i, top := range part.Tops {
		stock.Tops[i] = min(24, top+draw.Intn(1+draw.Intn(12)))
	}
	return stock, part
}

// drawnMoves go mostly along one axis, mostly through what can be.
func drawnMoves(draw *rand.Rand, stock, part impl.Field, count int) []impl.Move {
	moves := make([]impl.Move, count)
	now := to(0, 0, 24)
	for i := range moves {
		switch draw.Intn(5) {
		case 0:
			now.X = draw.Intn(stock.W)
		case 1:
			now.Y = draw.Intn(stock.H)
		case 2:
			now.Z = slices.Max(stock.Tops) - draw.Intn(2)
		case 3:
			now.Z = min(24, slices.Max(part.Tops)+draw.Intn(3))
		}
		if draw.Intn(150) == 0 {
			now.X = []int{-1, stock.W}[draw.Intn(2)]
		}
		if draw.Intn(150) == 0 {
			now.Z = []int{-1, 0, 25}[draw.Intn(3)]
		}
		now.Fast = draw.Intn(20) == 0
		moves[i] = now
	}
	return moves
}

func TestDrawnMoves(t *testing.T) {
	draw := rand.New(rand.NewSource(15))
	codes, cut := map[int]int{}, 0
	for range 1500 {
		stock, part := drawnStock(draw, 1+draw.Intn(6), 1+draw.Intn(6))
		r, moves := draw.Intn(4), drawnMoves(draw, stock, part, draw.Intn(40))
		got := checkMill(t, stock, part, r, moves)
		codes[got.Code]++
		cut += got.Cut
		checkAhead(t, stock, part, r, moves, got)
		checkUnits(t, stock, part, r, moves, got)
		checkTurned(t, stock, part, r, moves, got)
		checkSunk(t, stock, part, r, moves, got)
	}
	for _, code := range []int{impl.OK, impl.ErrRange, impl.ErrGouge, impl.ErrKind} {
		if codes[code] < 20 {
			t.Error("the moves are poor", codes)
		}
	}
	if cut < 10000 {
		t.Error("the moves take little", cut)
	}
}

// checkAhead: with a move's code all is told as of the moves ahead alone.
func checkAhead(t *testing.T, stock, part impl.Field, r int, moves []impl.Move, got impl.Milled) {
	t.Helper()
	if got.Code == impl.OK {
		return
	}
	ahead := impl.Mill(stock, part, r, moves[:got.Bad])
	ahead.Code, ahead.Bad = got.Code, got.Bad
	if !sameMilled(ahead, got) {
		t.Fatal("Mill", short(stock), short(part), r, short(moves), short(got), "ahead", short(ahead))
	}
}

// checkUnits: a move comes to the same as its units one by one.
func checkUnits(t *testing.T, stock, part impl.Field, r int, moves []impl.Move, got impl.Milled) {
	t.Helper()
	if got.Code != impl.OK {
		moves = moves[:got.Bad]
	}
	var units []impl.Move
	now := to(0, 0, 24)
	nearer := func(from, to int) int { return from + max(-1, min(1, to-from)) }
	for _, move := range moves {
		for first := true; first || now.X != move.X || now.Y != move.Y || now.Z != move.Z; first = false {
			now = impl.Move{Fast: move.Fast, X: nearer(now.X, move.X), Y: nearer(now.Y, move.Y), Z: nearer(now.Z, move.Z)}
			units = append(units, now)
		}
	}
	want := got
	want.Code, want.Bad = impl.OK, 0
	if again := impl.Mill(stock, part, r, units); !sameMilled(again, want) {
		t.Fatal("Mill", short(stock), short(part), r, short(moves), short(want), "by units", short(again))
	}
}

func fieldTurned(f impl.Field) impl.Field {
	made := level(f.H, f.W, 0)
	for i, top := range f.Tops {
		made.Tops[i%f.W*f.H+i/f.W] = top
	}
	return made
}

// checkTurned: with X and Y of all things changed over nothing else is other.
func checkTurned(t *testing.T, stock, part impl.Field, r int, moves []impl.Move, got impl.Milled) {
	t.Helper()
	over := slices.Clone(moves)
	for i, move := range moves {
		over[i] = impl.Move{Fast: move.Fast, X: move.Y, Y: move.X, Z: move.Z}
	}
	again := impl.Mill(fieldTurned(stock), fieldTurned(part), r, over)
	again.Field = fieldTurned(again.Field)
	if !sameMilled(again, got) {
		t.Fatal("Mill", short(stock), short(part), r, short(moves), short(got), "turned", short(again))
	}
}

// checkSunk: what is left is a stock itself. The same moves find it as it is,
// and take nothing more.
func checkSunk(t *testing.T, stock, part impl.Field, r int, moves []impl.Move, got impl.Milled) {
	t.Helper()
	if got.Code != impl.OK {
		moves = moves[:got.Bad]
	}
	again := impl.Mill(got.Field, part, r, moves)
	if again.Code != impl.OK || again.Cut != 0 || again.Depth != 0 || !sameField(again.Field, got.Field) || again.Air < got.Air {
		t.Fatal("Mill", short(stock), short(part), r, short(moves), short(got), "once more", short(again))
	}
}

// Wide fields, where no column is near every place.
func TestDrawnMovesOnWideFields(t *testing.T) {
	draw := rand.New(rand.NewSource(16))
	for range 40 {
		stock, part := drawnStock(draw, 24-draw.Intn(3), 24-draw.Intn(9))
		r, moves := draw.Intn(4), drawnMoves(draw, stock, part, 60)
		got := impl.Mill(stock, part, r, moves)
		checkLeft(t, stock, part, r, got)
		checkAhead(t, stock, part, r, moves, got)
		checkUnits(t, stock, part, r, moves[:20], impl.Mill(stock, part, r, moves[:20]))
		checkTurned(t, stock, part, r, moves, got)
		checkSunk(t, stock, part, r, moves, got)
	}
	for range 4 {
		stock, part := drawnStock(draw, 24, 24)
		checkMill(t, stock, part, 3, drawnMoves(draw, stock, part, 12))
	}
}
