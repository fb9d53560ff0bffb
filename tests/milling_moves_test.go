package tests

import (
	"slices"
	"strings"
	"testing"

	"loop.example/g00056/impl"
)

// topSigns: a column's height is the number of its sign.
const topSigns = "0123456789abcdefghijklmno"

// field: a row a word, a column a sign; the first row is that of y = 0.
func field(rows ...string) impl.Field {
	f := impl.Field{H: len(rows)}
	for _, row := range rows {
		f.W = len(row)
		for _, sign := range []byte(row) {
			f.Tops = append(f.Tops, strings.IndexByte(topSigns, sign))
		}
	}
	return f
}

func level(w, h, top int) impl.Field { return impl.Field{W: w, H: h, Tops: allOf(top, w*h)} }

func to(x, y, z int) impl.Move { return impl.Move{X: x, Y: y, Z: z} }

func fast(x, y, z int) impl.Move { return impl.Move{Fast: true, X: x, Y: y, Z: z} }

func sameField(a, b impl.Field) bool {
	return a.W == b.W && a.H == b.H && slices.Equal(a.Tops, b.Tops)
}

func sameMilled(a, b impl.Milled) bool {
	return a.Code == b.Code && a.Bad == b.Bad && sameField(a.Field, b.Field) && a.Cut == b.Cut && a.Air == b.Air && a.Depth == b.Depth
}

func checkMilled(t *testing.T, stock, part impl.Field, r int, moves []impl.Move, want impl.Milled) {
	t.Helper()
	if got := checkMill(t, stock, part, r, moves); !sameMilled(got, want) {
		t.Error("Mill", short(stock), short(part), r, short(moves), short(got), "not", short(want))
	}
}

func TestMillingLimits(t *testing.T) {
	if impl.MaxMoves != 2000 || impl.Grid != 24 {
		t.Error("limits", impl.MaxMoves, impl.Grid)
	}
}

// What each tool takes in the middle of a field: two units of each column, one
// at either of the last two places of the way down.
func TestEachToolInTheMiddle(t *testing.T) {
	stock, part := level(9, 9, 5), level(9, 9, 0)
	for r, left := range []impl.Field{
		field("555555555", "555555555", "555555555", "555555555", "555535555", "555555555", "555555555", "555555555", "555555555"),
		field("555555555", "555555555", "555555555", "555535555", "555333555", "555535555", "555555555", "555555555", "555555555"),
		field("555555555", "555555555", "555535555", "555333555", "553333355", "555333555", "555535555", "555555555", "555555555"),
		field("555555555", "555535555", "553333355", "553333355", "533333335", "553333355", "553333355", "555535555", "555555555"),
	} {
		columns := []int{1, 5, 13, 29}[r]
		there := []impl.Move{fast(4, 0, 24), fast(4, 4, 24), to(4, 4, 3)}
		checkMilled(t, stock, part, r, there, impl.Milled{Field: left, Cut: 2 * columns, Air: 19, Depth: 1})
		// Up and down once more: nothing but air.
		checkMilled(t, stock, part, r, append(there, to(4, 4, 24), to(4, 4, 3), fast(4, 4, 24)), impl.Milled{Field: left, Cut: 2 * columns, Air: 19 + 21 + 21, Depth: 1})
	}
}

// At the edge the tool takes the columns that there are.
func TestEachToolAtTheEdge(t *testing.T) {
	stock, part := level(4, 4, 5), level(4, 4, 0)
	for _, c := range []struct {
		r    int
		way  []impl.Move
		left impl.Field
		cut  int
	}{
		{0, []impl.Move{to(0, 0, 4)}, field("4555", "5555", "5555", "5555"), 1},
		{1, []impl.Move{to(0, 0, 4)}, field("4455", "4555", "5555", "5555"), 3},
		{2, []impl.Move{to(0, 0, 4)}, field("4445", "4455", "4555", "5555"), 6},
		{3, []impl.Move{to(0, 0, 4)}, field("4444", "4445", "4445", "4555"), 11},
		{0, []impl.Move{fast(3, 0, 24), fast(3, 3, 24), to(3, 3, 4)}, field("5555", "5555", "5555", "5554"), 1},
		{1, []impl.Move{fast(3, 0, 24), fast(3, 3, 24), to(3, 3, 4)}, field("5555", "5555", "5554", "5544"), 3},
		{2, []impl.Move{fast(3, 0, 24), fast(3, 3, 24), to(3, 3, 4)}, field("5555", "5554", "5544", "5444"), 6},
		{3, []impl.Move{fast(3, 0, 24), fast(3, 3, 24), to(3, 3, 4)}, field("5554", "5444", "5444", "4444"), 11},
		{1, []impl.Move{fast(2, 0, 24), to(2, 0, 4)}, field("5444", "5545", "5555", "5555"), 4},
		{2, []impl.Move{fast(0, 1, 24), to(0, 1, 4)}, field("4455", "4445", "4455", "4555"), 8},
		{3, []impl.Move{fast(0, 2, 24), to(0, 2, 4)}, field("4445", "4445", "4444", "4445"), 13},
		{3, []impl.Move{fast(1, 0, 24), fast(1, 3, 24), to(1, 3, 4)}, field("5455", "4444", "4444", "4444"), 13},
	} {
		checkMilled(t, stock, part, c.r, c.way, impl.Milled{Field: c.left, Cut: c.cut, Air: 19, Depth: 1})
	}
	// Of a field of one column each tool takes that one.
	for r := range 4 {
		checkMilled(t, level(1, 1, 24), level(1, 1, 0), r, []impl.Move{to(0, 0, 0)}, impl.Milled{Field: level(1, 1, 0), Cut: 24, Depth: 1})
	}
}

func TestMovesTold(t *testing.T) {
	bed := field("000", "000", "000")
	for _, c := range []struct {
		stock, part impl.Field
		r           int
		moves       []impl.Move
		want        impl.Milled
	}{
		// No moves; moves that go nowhere, at the very first place, twice, fast, and where much was taken.
		{level(3, 3, 5), bed, 1, nil, impl.Milled{Field: level(3, 3, 5)}},
		{level(3, 3, 5), bed, 1, []impl.Move{}, impl.Milled{Field: level(3, 3, 5)}},
		{level(3, 3, 24), bed, 3, []impl.Move{to(0, 0, 24)}, impl.Milled{Field: level(3, 3, 24), Air: 1}},
		{level(3, 3, 24), bed, 3, []impl.Move{to(0, 0, 24), to(0, 0, 24)}, impl.Milled{Field: level(3, 3, 24), Air: 2}},
		{level(3, 3, 24), bed, 3, []impl.Move{fast(0, 0, 24), fast(0, 0, 24), to(0, 0, 24)}, impl.Milled{Field: level(3, 3, 24), Air: 1}},
		{level(3, 3, 24), bed, 0, []impl.Move{to(0, 0, 23), to(0, 0, 23), to(0, 0, 23), fast(0, 0, 23)}, impl.Milled{Field: field("noo", "ooo", "ooo"), Cut: 1, Air: 2, Depth: 1}},
		{level(3, 3, 24), bed, 1, []impl.Move{to(0, 0, 23), to(0, 0, 23), to(0, 0, 22), to(0, 0, 22)}, impl.Milled{Field: field("mmo", "moo", "ooo"), Cut: 6, Air: 2, Depth: 1}},
		// Along X, along Y, down and up, each there and back: two units at one place, the way back through air.
		{level(3, 3, 24), bed, 0, []impl.Move{to(0, 0, 22), to(2, 0, 22), to(0, 0, 22)}, impl.Milled{Field: field("mmm", "ooo", "ooo"), Cut: 6, Air: 2, Depth: 2}},
		{level(3, 3, 24), bed, 0, []impl.Move{to(0, 0, 21), to(0, 2, 21), to(0, 0, 21)}, impl.Milled{Field: field("loo", "loo", "loo"), Cut: 9, Air: 2, Depth: 3}},
		{level(3, 3, 24), bed, 0, []impl.Move{to(0, 0, 21), to(0, 0, 24), fast(0, 0, 21), fast(0, 0, 24)}, impl.Milled{Field: field("loo", "ooo", "ooo"), Cut: 3, Air: 3, Depth: 1}},
		{level(3, 3, 24), bed, 0, []impl.Move{fast(2, 0, 24), to(2, 0, 23), to(0, 0, 23)}, impl.Milled{Field: field("nnn", "ooo", "ooo"), Cut: 3, Depth: 1}},
		{level(3, 3, 24), bed, 0, []impl.Move{fast(0, 2, 24), to(0, 2, 23), to(0, 0, 23)}, impl.Milled{Field: field("noo", "noo", "noo"), Cut: 3, Depth: 1}},
		// Of a place at which some columns are taken and others not, the most is the depth; a place that takes one unit is no air.
		{field("519", "222", "000"), bed, 1, []impl.Move{fast(1, 0, 24), fast(1, 0, 9), to(1, 0, 8), to(0, 0, 8), to(0, 0, 4)}, impl.Milled{Field: field("418", "222", "000"), Cut: 2, Air: 1 + 3, Depth: 1}},
		{field("519", "222", "000"), bed, 1, []impl.Move{fast(0, 1, 24), fast(0, 1, 5), to(0, 1, 2), fast(0, 1, 24), fast(1, 1, 24), fast(1, 1, 3), to(1, 1, 2), fast(2, 1, 2)}, impl.Milled{Code: impl.ErrKind, Bad: 7, Field: field("219", "222", "000"), Cut: 3, Air: 1, Depth: 1}},
		{field("519", "222", "000"), bed, 1, []impl.Move{fast(0, 1, 24), fast(0, 1, 5), to(0, 1, 2), to(1, 1, 2), to(2, 1, 2)}, impl.Milled{Field: field("212", "222", "000"), Cut: 10, Air: 1, Depth: 7}},
		// The end is the highest place, the lowest, and the last of each axis.
		{level(3, 3, 24), bed, 3, []impl.Move{to(0, 0, 0), to(2, 0, 0), to(2, 2, 0), to(2, 2, 24)}, impl.Milled{Field: bed, Cut: 9 * 24, Air: 2 + 2 + 24, Depth: 1}},
		{level(3, 3, 24), bed, 0, []impl.Move{to(0, 0, 0), to(2, 0, 0), to(2, 2, 0), to(2, 2, 24)}, impl.Milled{Field: field("000", "oo0", "oo0"), Cut: 5 * 24, Air: 24, Depth: 24}},
	} {
		checkMilled(t, c.stock, c.part, c.r, c.moves, c.want)
	}
}

// Behind the moves ahead: one unit of the column at 0, 0 and that at 1, 0.
func TestMovesThatCanNotBe(t *testing.T) {
	stock := level(3, 2, 10)
	part := field("447", "444")
	ahead := []impl.Move{fast(0, 0, 10), to(0, 0, 9), to(1, 0, 9), to(1, 0, 12)}
	before := impl.Milled{Field: field("99a", "aaa"), Cut: 2, Air: 3, Depth: 1}
	for _, c := range []struct {
		move impl.Move
		code int
	}{
		// Beyond the field on each side, and at its last place.
		{to(-1, 0, 12), impl.ErrRange}, {to(0, 0, 12), impl.OK}, {to(2, 0, 12), impl.OK}, {to(3, 0, 12), impl.ErrRange}, {to(1, -1, 12), impl.ErrRange}, {to(1, 1, 12), impl.OK}, {to(1, 2, 12), impl.ErrRange},
		{to(1, 0, 25), impl.ErrRange}, {to(1, 0, 24), impl.OK}, {to(1, 0, -1), impl.ErrRange}, {to(1, 0, 4), impl.OK}, {fast(-1, 0, 12), impl.ErrRange}, {fast(1, 2, 12), impl.ErrRange}, {fast(1, 0, 25), impl.ErrRange},
		{to(least, 0, 12), impl.ErrRange}, {to(greatest, 0, 12), impl.ErrRange}, {to(1, least, 12), impl.ErrRange}, {to(1, greatest, 12), impl.ErrRange}, {to(1, 0, least), impl.ErrRange}, {to(1, 0, greatest), impl.ErrRange},
		// In two axes, in three; beyond the field besides.
		{to(0, 1, 12), impl.ErrState}, {to(0, 0, 11), impl.ErrState}, {to(1, 1, 11), impl.ErrState}, {to(2, 1, 13), impl.ErrState}, {fast(0, 1, 12), impl.ErrState}, {fast(2, 1, 24), impl.ErrState}, {to(2, 1, 0), impl.ErrState},
		{to(3, 1, 12), impl.ErrRange}, {to(0, 2, 12), impl.ErrRange}, {to(0, 1, 25), impl.ErrRange}, {to(-1, 0, 11), impl.ErrRange}, {to(0, 0, -1), impl.ErrRange}, {to(greatest, least, greatest), impl.ErrRange}, {fast(least, least, least), impl.ErrRange},
		// Into the part: at the last place only, and farther.
		{to(1, 0, 3), impl.ErrGouge}, {to(1, 0, 0), impl.ErrGouge},
		// Fast through air, to the last place in air, and one unit on; down into the part on a way through stock.
		{fast(0, 0, 12), impl.OK}, {fast(2, 0, 12), impl.OK}, {fast(1, 0, 24), impl.OK}, {fast(1, 0, 9), impl.OK}, {fast(1, 0, 8), impl.ErrKind}, {fast(1, 0, 4), impl.ErrKind}, {fast(1, 0, 3), impl.ErrKind}, {fast(1, 0, 0), impl.ErrKind},
		{fast(1, 0, 12), impl.OK}, {to(1, 0, 12), impl.OK},
	} {
		want := before
		want.Code, want.Bad = c.code, 4
		moves := append(slices.Clone(ahead), c.move)
		got := checkMill(t, stock, part, 0, moves)
		if c.code != impl.OK && !sameMilled(got, want) || got.Code != c.code {
			t.Error("Mill", c, got, "not", want)
		}
		// What stands behind it makes no difference, wrong or right.
		if c.code != impl.OK {
			checkMilled(t, stock, part, 0, append(moves, to(-1, 0, 0), to(0, 0, 12)), want)
		}
	}
}

func TestGougesAndFastMovesTold(t *testing.T) {
	for _, c := range []struct {
		stock, part impl.Field
		r           int
		moves       []impl.Move
		want        impl.Milled
	}{
		// Its last place alone cuts the part: what the places ahead took stands again.
		{level(4, 1, 9), field("2226"), 0, []impl.Move{to(0, 0, 7), to(0, 0, 4), to(3, 0, 4)}, impl.Milled{Code: impl.ErrGouge, Bad: 2, Field: field("4999"), Cut: 5, Air: 15, Depth: 1}},
		{level(4, 1, 9), field("2226"), 0, []impl.Move{to(0, 0, 7), to(0, 0, 4), to(2, 0, 4)}, impl.Milled{Field: field("4449"), Cut: 15, Air: 15, Depth: 5}},
		{level(4, 1, 9), field("2226"), 1, []impl.Move{to(0, 0, 7), to(0, 0, 4), to(2, 0, 4)}, impl.Milled{Code: impl.ErrGouge, Bad: 2, Field: field("4499"), Cut: 10, Air: 15, Depth: 1}},
		{level(4, 1, 9), field("2226"), 2, []impl.Move{to(0, 0, 7), to(0, 0, 4), to(1, 0, 4)}, impl.Milled{Code: impl.ErrGouge, Bad: 2, Field: field("4449"), Cut: 15, Air: 15, Depth: 1}},
		{level(4, 1, 9), field("2226"), 3, []impl.Move{to(0, 0, 7), to(0, 0, 4)}, impl.Milled{Code: impl.ErrGouge, Bad: 1, Field: field("7777"), Cut: 8, Air: 15, Depth: 1}},
		{level(4, 1, 9), field("2226"), 3, []impl.Move{to(0, 0, 6)}, impl.Milled{Field: field("6666"), Cut: 12, Air: 15, Depth: 1}},
		{level(4, 1, 9), field("2226"), 3, []impl.Move{to(0, 0, 5)}, impl.Milled{Code: impl.ErrGouge, Field: level(4, 1, 9)}},
		// Fast, and at its first place something is above z: the part too, or the stock alone.
		{level(2, 1, 9), field("29"), 0, []impl.Move{to(0, 0, 8), fast(1, 0, 8)}, impl.Milled{Code: impl.ErrGouge, Bad: 1, Field: field("89"), Cut: 1, Air: 15, Depth: 1}},
		{level(2, 1, 9), field("28"), 0, []impl.Move{to(0, 0, 8), fast(1, 0, 8)}, impl.Milled{Code: impl.ErrKind, Bad: 1, Field: field("89"), Cut: 1, Air: 15, Depth: 1}},
		{level(2, 1, 9), field("28"), 0, []impl.Move{to(0, 0, 8), to(1, 0, 8), fast(0, 0, 8)}, impl.Milled{Field: field("88"), Cut: 2, Air: 15, Depth: 1}},
		// Fast through stock first and then into the part, and the other way round: place by place.
		{level(3, 1, 9), field("229"), 0, []impl.Move{to(0, 0, 8), fast(2, 0, 8)}, impl.Milled{Code: impl.ErrKind, Bad: 1, Field: field("899"), Cut: 1, Air: 15, Depth: 1}},
		{level(3, 1, 9), field("292"), 0, []impl.Move{to(0, 0, 8), fast(2, 0, 8)}, impl.Milled{Code: impl.ErrGouge, Bad: 1, Field: field("899"), Cut: 1, Air: 15, Depth: 1}},
		{level(3, 1, 9), level(3, 1, 9), 0, []impl.Move{fast(0, 0, 0)}, impl.Milled{Code: impl.ErrGouge, Field: level(3, 1, 9)}},
		{level(3, 1, 9), level(3, 1, 8), 0, []impl.Move{fast(0, 0, 0)}, impl.Milled{Code: impl.ErrKind, Field: level(3, 1, 9)}},
		// A part that is as high as the stock: the tool may stand on it, and no unit below.
		{level(2, 2, 24), level(2, 2, 24), 3, []impl.Move{to(1, 0, 24), to(1, 1, 24), fast(0, 1, 24)}, impl.Milled{Field: level(2, 2, 24), Air: 2}},
		{level(2, 2, 24), level(2, 2, 24), 3, []impl.Move{to(0, 0, 23)}, impl.Milled{Code: impl.ErrGouge, Field: level(2, 2, 24)}},
		// One column of the part, at the rim of the tool, holds it up.
		{level(3, 3, 9), field("222", "222", "525"), 1, []impl.Move{fast(1, 0, 24), fast(1, 1, 24), to(1, 1, 2)}, impl.Milled{Field: field("929", "222", "929"), Cut: 35, Air: 15, Depth: 1}},
		{level(3, 3, 9), field("222", "222", "525"), 2, []impl.Move{fast(1, 0, 24), fast(1, 1, 24), to(1, 1, 2)}, impl.Milled{Code: impl.ErrGouge, Bad: 2, Field: level(3, 3, 9)}},
		{level(3, 3, 9), field("222", "222", "525"), 2, []impl.Move{fast(1, 0, 24), fast(1, 1, 24), to(1, 1, 5)}, impl.Milled{Field: level(3, 3, 5), Cut: 36, Air: 15, Depth: 1}},
		{level(3, 3, 9), field("222", "222", "232"), 1, []impl.Move{fast(1, 0, 24), fast(1, 1, 24), to(1, 1, 2)}, impl.Milled{Code: impl.ErrGouge, Bad: 2, Field: level(3, 3, 9)}},
	} {
		checkMilled(t, c.stock, c.part, c.r, c.moves, c.want)
	}
}
