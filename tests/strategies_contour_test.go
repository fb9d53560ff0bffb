package tests

import (
	"math/rand"
	"slices"
	"testing"

	"loop.example/g00056/impl"
)

// filledAt: there is such a column, and it is above z.
func filledAt(f impl.Field, z, x, y int) bool {
	return x >= 0 && x < f.W && y >= 0 && y < f.H && f.Tops[y*f.W+x] > z
}

// stride: a way along one side of a column.
type stride [2]impl.Point

// borders: round each filled column to the left; what is gone both ways, lies
// between two of them and falls away. By the points where they begin.
func borders(f impl.Field, z int) map[impl.Point][]stride {
	there := map[stride]int{}
	for i, top := range f.Tops {
		x, y := i%f.W, i/f.W
		if top <= z {
			continue
		}
		round := points(x, y, x+1, y, x+1, y+1, x, y+1)
		for side, corner := range round {
			u := stride{corner, round[(side+1)%4]}
			if back := (stride{u[1], u[0]}); there[back] > 0 {
				delete(there, back)
			} else {
				there[u]++
			}
		}
	}
	begin := map[impl.Point][]stride{}
	for u := range there {
		begin[u[0]] = append(begin[u[0]], u)
	}
	return begin
}

func turnAt(a, b, c impl.Point) int { return signedArea2(a, b, c) }

// exactContour links the borders; where two go on, one of them turns to the left.
func exactContour(f impl.Field, z int) ([]impl.Point, int) {
	switch {
	case !exactField(f):
		return nil, impl.ErrBad
	case z < 0 || z > 23:
		return nil, impl.ErrRange
	}
	first := slices.IndexFunc(f.Tops, func(top int) bool { return top > z })
	if first < 0 {
		return nil, impl.ErrNone
	}
	begin := borders(f, z)
	start := at(first%f.W, first/f.W)
	now := begin[start][0]
	corners := []impl.Point{start}
	for now[1] != start {
		next := begin[now[1]][0]
		if len(begin[now[1]]) > 1 && turnAt(now[0], now[1], next[1]) < 0 {
			next = begin[now[1]][1]
		}
		if turnAt(now[0], now[1], next[1]) != 0 {
			corners = append(corners, now[1])
		}
		now = next
	}
	return corners, impl.OK
}

// stridesOf: the outline, unit by unit; none if its sides are not all straight along one axis.
func stridesOf(corners []impl.Point) []stride {
	var strides []stride
	for i, corner := range corners {
		next := corners[(i+1)%len(corners)]
		if (corner.X == next.X) == (corner.Y == next.Y) {
			return nil
		}
		for corner != next {
			on := at(corner.X+max(-1, min(1, next.X-corner.X)), corner.Y+max(-1, min(1, next.Y-corner.Y)))
			strides = append(strides, stride{corner, on})
			corner = on
		}
	}
	return strides
}

// besides: the columns on the left of a unit and on its right.
func (u stride) besides() (left, right impl.Point) {
	x, y := min(u[0].X, u[1].X), min(u[0].Y, u[1].Y)
	switch {
	case u[0].X < u[1].X:
		return at(x, y), at(x, y-1)
	case u[0].X > u[1].X:
		return at(x, y-1), at(x, y)
	case u[0].Y < u[1].Y:
		return at(x-1, y), at(x, y)
	}
	return at(x, y), at(x-1, y)
}

// meetAlone: of the four columns at a corner two are filled, across from each other.
func meetAlone(f impl.Field, z int, corner impl.Point) bool {
	a, b := filledAt(f, z, corner.X-1, corner.Y-1), filledAt(f, z, corner.X, corner.Y-1)
	c, d := filledAt(f, z, corner.X-1, corner.Y), filledAt(f, z, corner.X, corner.Y)
	return a == d && b == c && a != b
}

// reached: all places from one on that are let, by steps along the axes and, if so, aslant.
func reached(start impl.Point, aslant bool, let func(impl.Point) bool) map[impl.Point]int {
	found := map[impl.Point]int{start: 1}
	for todo := []impl.Point{start}; len(todo) > 0; todo = todo[1:] {
		for x := -1; x <= 1; x++ {
			for y := -1; y <= 1; y++ {
				near := at(todo[0].X+x, todo[0].Y+y)
				if (aslant || x == 0 || y == 0) && found[near] == 0 && let(near) {
					found[near] = 1
					todo = append(todo, near)
				}
			}
		}
	}
	return found
}

// enclosed: how many columns can not be left towards the outside, not even
// aslant, without going through the filled ones that hang together with the first.
func enclosed(f impl.Field, z int, first impl.Point) int {
	piece := reached(first, false, func(p impl.Point) bool { return filledAt(f, z, p.X, p.Y) })
	outside := reached(at(-1, -1), true, func(p impl.Point) bool {
		return p.X >= -1 && p.X <= f.W && p.Y >= -1 && p.Y <= f.H && piece[p] == 0
	})
	return (f.W+2)*(f.H+2) - len(outside)
}

// checkOutline: each unit has a filled column on its left alone, none is gone
// twice, no corner is straight, at corners where two columns meet alone it
// turns to the left, and it goes round to the left in all.
func checkOutline(t *testing.T, f impl.Field, z int, corners []impl.Point) {
	t.Helper()
	strides := stridesOf(corners)
	gone := map[stride]int{}
	area := 0
	for i, u := range strides {
		left, right := u.besides()
		next := strides[(i+1)%len(strides)]
		turn := turnAt(u[0], u[1], next[1])
		gone[u]++
		area += u[0].X*u[1].Y - u[0].Y*u[1].X
		switch {
		case !filledAt(f, z, left.X, left.Y) || filledAt(f, z, right.X, right.Y) || gone[u] > 1 || next[0] != u[1],
			meetAlone(f, z, u[1]) && turn <= 0,
			(turn == 0) == slices.Contains(corners, u[1]):
			t.Fatal("Contour", short(f), z, corners, "at", u)
		}
	}
	first := slices.IndexFunc(f.Tops, func(top int) bool { return top > z })
	start := at(first%f.W, first/f.W)
	if len(strides) == 0 || corners[0] != start || area != 2*enclosed(f, z, start) {
		t.Fatal("Contour", short(f), z, corners, "round", area)
	}
}

func checkContour(t *testing.T, f impl.Field, z int) []impl.Point {
	t.Helper()
	corners, code := impl.Contour(f, z)
	want, wantCode := exactContour(f, z)
	if code != wantCode || !slices.Equal(corners, want) {
		t.Fatal("Contour", short(f), z, corners, code, "not", want, wantCode)
	}
	if code == impl.OK {
		checkOutline(t, f, z, corners)
	}
	return corners
}

// checkNoContour: that code, and nothing else.
func checkNoContour(t *testing.T, f impl.Field, z, code int) {
	t.Helper()
	if corners, got := impl.Contour(f, z); len(corners) != 0 || got != code {
		t.Error("Contour", short(f), z, corners, got, "not", code)
	}
}

func TestContoursTold(t *testing.T) {
	for _, c := range []struct {
		f    impl.Field
		z    int
		want []impl.Point
	}{
		// One column, all columns, one of many, rows and columns of them.
		{field("5"), 4, points(0, 0, 1, 0, 1, 1, 0, 1)},
		{field("555", "555"), 4, points(0, 0, 3, 0, 3, 2, 0, 2)},
		{field("000", "050", "000"), 4, points(1, 1, 2, 1, 2, 2, 1, 2)},
		{field("005"), 0, points(2, 0, 3, 0, 3, 1, 2, 1)},
		{field("0", "0", "5"), 0, points(0, 2, 1, 2, 1, 3, 0, 3)},
		{field("5555"), 4, points(0, 0, 4, 0, 4, 1, 0, 1)},
		{field("5", "5", "5"), 4, points(0, 0, 1, 0, 1, 3, 0, 3)},
		// What is as high as z is not above it; the least and the greatest height.
		{field("4554"), 4, points(1, 0, 3, 0, 3, 1, 1, 1)},
		{field("0o1"), 0, points(1, 0, 3, 0, 3, 1, 1, 1)},
		{field("0o1"), 1, points(1, 0, 2, 0, 2, 1, 1, 1)},
		{field("noo"), 23, points(1, 0, 3, 0, 3, 1, 1, 1)},
		// Steps, a cross, a U and a roof: to the left and to the right.
		{field("555", "550", "500"), 4, points(0, 0, 3, 0, 3, 1, 2, 1, 2, 2, 1, 2, 1, 3, 0, 3)},
		{field("005", "055", "555"), 4, points(2, 0, 3, 0, 3, 3, 0, 3, 0, 2, 1, 2, 1, 1, 2, 1)},
		{field("050", "555", "050"), 4, points(1, 0, 2, 0, 2, 1, 3, 1, 3, 2, 2, 2, 2, 3, 1, 3, 1, 2, 0, 2, 0, 1, 1, 1)},
		{field("555", "505", "505"), 4, points(0, 0, 3, 0, 3, 3, 2, 3, 2, 1, 1, 1, 1, 3, 0, 3)},
		{field("505", "505", "555"), 4, points(0, 0, 1, 0, 1, 2, 2, 2, 2, 0, 3, 0, 3, 3, 0, 3)},
		// Two that meet in a corner alone, both ways round, and several in a row.
		{field("50", "05"), 4, points(0, 0, 1, 0, 1, 1, 0, 1)},
		{field("05", "50"), 4, points(1, 0, 2, 0, 2, 1, 1, 1)},
		{field("500", "050", "005"), 4, points(0, 0, 1, 0, 1, 1, 0, 1)},
		{field("005", "050", "500"), 4, points(2, 0, 3, 0, 3, 1, 2, 1)},
		{field("505", "050", "505"), 4, points(0, 0, 1, 0, 1, 1, 0, 1)},
		{field("055", "505", "055"), 4, points(1, 0, 3, 0, 3, 3, 1, 3, 1, 2, 2, 2, 2, 1, 1, 1)},
		{field("05050", "55555", "05050"), 4, points(1, 0, 2, 0, 2, 1, 3, 1, 3, 0, 4, 0, 4, 1, 5, 1, 5, 2, 4, 2, 4, 3, 3, 3, 3, 2, 2, 2, 2, 3, 1, 3, 1, 2, 0, 2, 0, 1, 1, 1)},
		// A hole; holes that reach the outside in a corner alone: the way leads through that corner twice.
		{field("555", "505", "555"), 4, points(0, 0, 3, 0, 3, 3, 0, 3)},
		{field("550", "505", "555"), 4, points(0, 0, 2, 0, 2, 1, 1, 1, 1, 2, 2, 2, 2, 1, 3, 1, 3, 3, 0, 3)},
		{field("055", "505", "555"), 4, points(1, 0, 3, 0, 3, 3, 0, 3, 0, 1, 1, 1, 1, 2, 2, 2, 2, 1, 1, 1)},
		{field("5555", "5055", "5505", "5555"), 4, points(0, 0, 4, 0, 4, 4, 0, 4)},
		{field("5550", "5505", "5055", "5555"), 4, points(0, 0, 3, 0, 3, 1, 2, 1, 2, 2, 1, 2, 1, 3, 2, 3, 2, 2, 3, 2, 3, 1, 4, 1, 4, 4, 0, 4)},
		// Two outlines, and one within another: the lowest, then leftmost one.
		{field("00055", "55000"), 4, points(3, 0, 5, 0, 5, 1, 3, 1)},
		{field("50055", "50000"), 4, points(0, 0, 1, 0, 1, 2, 0, 2)},
		{field("005", "000", "500"), 4, points(2, 0, 3, 0, 3, 1, 2, 1)},
		{field("55555", "50005", "50505", "50005", "55555"), 4, points(0, 0, 5, 0, 5, 5, 0, 5)},
		{field("55555", "50005", "50505", "50005", "55555"), 0, points(0, 0, 5, 0, 5, 5, 0, 5)},
		// Leftmost in its row, but not of all.
		{field("0050", "5555"), 4, points(2, 0, 3, 0, 3, 1, 4, 1, 4, 2, 0, 2, 0, 1, 2, 1)},
	} {
		if got := checkContour(t, c.f, c.z); !slices.Equal(got, c.want) {
			t.Error("Contour", c.f, c.z, got, "not", c.want)
		}
	}
}

func TestContoursOfAllSmallFields(t *testing.T) {
	for _, size := range [][2]int{{1, 1}, {1, 6}, {6, 1}, {2, 2}, {3, 3}, {2, 5}, {5, 2}, {4, 3}, {3, 4}} {
		count := size[0] * size[1]
		for filled := range 1 << count {
			f := level(size[0], size[1], 4)
			for i := range count {
				f.Tops[i] += filled >> i & 1
			}
			checkContour(t, f, 4)
		}
	}
}

// checkContourMoved: the same columns in a wider field, and as cut off at z.
func checkContourMoved(t *testing.T, f impl.Field, z, x, y int, corners []impl.Point) {
	t.Helper()
	wide, cut := level(f.W+x+1, f.H+y+1, z), level(f.W, f.H, 0)
	for i, top := range f.Tops {
		wide.Tops[(i/f.W+y)*wide.W+i%f.W+x] = top
		if top > z {
			cut.Tops[i] = 1
		}
	}
	moved := slices.Clone(corners)
	for i := range moved {
		moved[i] = at(moved[i].X+x, moved[i].Y+y)
	}
	if got, _ := impl.Contour(wide, z); !slices.Equal(got, moved) {
		t.Fatal("Contour", short(wide), z, got, "not", moved)
	}
	if got, _ := impl.Contour(cut, 0); !slices.Equal(got, corners) {
		t.Fatal("Contour", short(cut), 0, got, "not", corners)
	}
}

func TestContoursOfDrawnFields(t *testing.T) {
	draw := rand.New(rand.NewSource(22))
	long, twice := 0, 0
	for range 3000 {
		f := drawnField(draw, 1+draw.Intn(9), 1+draw.Intn(9), 0, 1+draw.Intn(24))
		z := draw.Intn(24)
		if draw.Intn(3) > 0 {
			z = slices.Max(f.Tops) / 3
		}
		corners := checkContour(t, f, z)
		checkContourMoved(t, f, z, draw.Intn(5), draw.Intn(5), corners)
		if len(corners) > 20 {
			long++
		}
		for i, corner := range corners {
			if slices.Contains(corners[:i], corner) {
				twice++
				break
			}
		}
	}
	if long < 200 || twice < 100 {
		t.Error("the fields are poor", long, twice)
	}
	for range 60 {
		f := drawnField(draw, 24-draw.Intn(3), 24-draw.Intn(3), 0, 24)
		for z := -1; z <= 24; z += 1 + draw.Intn(4) {
			checkContour(t, f, z)
		}
	}
}

// tree: rows that hang together at their beginnings, with teeth on both sides.
func tree() impl.Field {
	f := level(24, 24, 0)
	for i := range f.Tops {
		x, y := i%24, i/24
		if x == 0 || y%4 == 0 || x%2 == 0 && y%4 != 2 {
			f.Tops[i] = 24
		}
	}
	return f
}

// coil: a wall that winds inwards, one column wide.
func coil(turns int) impl.Field {
	f := level(24, 24, 0)
	for now, way := at(0, 0), at(1, 0); turns > 0; {
		f.Tops[now.Y*24+now.X] = 1
		next := at(now.X+way.X, now.Y+way.Y)
		if min(next.X, next.Y) < 0 || max(next.X, next.Y) > 23 || filledAt(f, 0, next.X+way.X, next.Y+way.Y) {
			way = at(-way.Y, way.X)
			turns--
			continue
		}
		now = next
	}
	return f
}

func TestContoursOfWholeFields(t *testing.T) {
	for w := 1; w <= 24; w++ {
		for h := 1; h <= 24; h++ {
			if got := checkContour(t, level(w, h, 24), 23); !slices.Equal(got, points(0, 0, w, 0, w, h, 0, h)) {
				t.Error("Contour", w, h, got)
			}
		}
	}
	board := level(24, 24, 0)
	for i := range board.Tops {
		board.Tops[i] = (i%24 + i/24) % 2
	}
	if got := checkContour(t, board, 0); !slices.Equal(got, points(1, 0, 2, 0, 2, 1, 1, 1)) {
		t.Error("Contour", got)
	}
	// An outline may have more corners than a polygon.
	if got := checkContour(t, tree(), 0); len(got) <= impl.MaxCorners {
		t.Error("Contour", len(got))
	}
	// Both sides of a wall that turns nineteen times and stops at the next one.
	if got := checkContour(t, coil(20), 0); len(got) != 2*19+4 {
		t.Error("Contour", len(got), got)
	}
}

func TestContoursThatAreNone(t *testing.T) {
	for z := range 24 {
		checkNoContour(t, level(1, 1, z), z, impl.ErrNone)
		checkNoContour(t, level(24, 24, z), z, impl.ErrNone)
		checkNoContour(t, level(3, 2, 0), z, impl.ErrNone)
		for place := range 6 {
			f := level(3, 2, z)
			f.Tops[place]++
			x, y := place%3, place/3
			if got := checkContour(t, f, z); !slices.Equal(got, points(x, y, x+1, y, x+1, y+1, x, y+1)) {
				t.Error("Contour", f, z, got)
			}
		}
	}
}

func TestContoursThatAreWrong(t *testing.T) {
	for _, z := range []int{least, least + 1, -1 << 32, -24, -2, -1, 24, 25, 26, 1 << 31, 1 << 32, greatest - 1, greatest} {
		for _, f := range []impl.Field{level(3, 2, 24), level(3, 2, 0), level(1, 1, 24), level(24, 24, 24), field("550", "505")} {
			checkNoContour(t, f, z, impl.ErrRange)
		}
		// No field comes ahead of no height.
		for _, f := range []impl.Field{{}, level(25, 1, 24), level(1, 25, 24), level(3, 2, 25), level(3, 2, -1), {W: 3, H: 2, Tops: allOf(24, 5)}, {W: 3, H: 2, Tops: allOf(24, 7)}, {W: greatest, H: least}, {W: 1 << 32, H: 1 << 32}, {W: -1, H: -1, Tops: []int{5}}, {W: 2, H: 2, Tops: make([]int, 1<<16)}} {
			checkNoContour(t, f, z, impl.ErrBad)
			checkNoContour(t, f, 0, impl.ErrBad)
			checkNoContour(t, f, 23, impl.ErrBad)
		}
	}
}
