package tests

import (
	"fmt"
	"math/rand"
	"slices"
	"testing"

	"loop.example/g00056/impl"
)

// lowestAt goes down from above, until a column of the part is in the way.
func lowestAt(part impl.Field, r, x, y int) int {
	for z := 24; z > 0; z-- {
		for i, top := range part.Tops {
			if top == z && takes(r, x, y, i%part.W, i/part.W) {
				return z
			}
		}
	}
	return 0
}

// exactFloor: each column is taken down as far as it goes from each place.
func exactFloor(part impl.Field, r int) impl.Field {
	floor := level(part.W, part.H, 24)
	for i := range part.Tops {
		x, y := i%part.W, i/part.W
		z := lowestAt(part, r, x, y)
		for j := range floor.Tops {
			if takes(r, x, y, j%part.W, j/part.W) {
				floor.Tops[j] = min(floor.Tops[j], z)
			}
		}
	}
	return floor
}

// checkFloor: it is nowhere below the part, and its own floor.
func checkFloor(t *testing.T, part impl.Field, r int) impl.Field {
	t.Helper()
	floor, code := impl.Floor(part, r)
	if want := exactFloor(part, r); code != impl.OK || !sameField(floor, want) {
		t.Fatal("Floor", short(part), r, short(floor), code, "not", short(want))
	}
	checkFloorAlone(t, part, floor, r)
	return floor
}

func checkFloorAlone(t *testing.T, part, floor impl.Field, r int) {
	t.Helper()
	if below, code := impl.Rest(part, floor); below != 0 || code != impl.OK {
		t.Fatal("Floor", short(part), r, short(floor), "is below the part")
	}
	if again, code := impl.Floor(floor, r); code != impl.OK || !sameField(again, floor) {
		t.Fatal("Floor", short(part), r, short(floor), "has another floor", short(again))
	}
	if r == 0 && !sameField(floor, part) {
		t.Fatal("Floor", short(part), short(floor))
	}
}

func TestFloorsTold(t *testing.T) {
	pit := field("666", "606", "666")
	slot := field("99999", "90009", "99999")
	hall := field("7777777", "7000007", "7000007", "7000007", "7000007", "7000007", "7777777")
	for _, c := range []struct {
		part impl.Field
		r    int
		want impl.Field
	}{
		{pit, 0, pit}, {pit, 1, level(3, 3, 6)}, {pit, 2, level(3, 3, 6)}, {pit, 3, level(3, 3, 6)}, {slot, 0, slot}, {slot, 1, level(5, 3, 9)},
		// In a hall the tool 1 leaves the corners; wider ones leave more, and the widest all of it.
		{hall, 0, hall},
		{hall, 1, field("7777777", "7700077", "7000007", "7000007", "7000007", "7700077", "7777777")},
		{hall, 2, field("7777777", "7770777", "7700077", "7000007", "7700077", "7770777", "7777777")},
		{hall, 3, level(7, 7, 7)},
		// At the edge the tool stands partly beyond the field.
		{field("0666", "6666"), 1, field("6666", "6666")}, {field("0066", "0666"), 1, field("0066", "0666")}, {field("0066", "0066"), 1, field("0066", "0066")}, {field("00006", "00006", "66666"), 2, level(5, 3, 6)}, {field("00006", "00006", "00006", "66666"), 2, field("00006", "00066", "00666", "66666")},
		{field("0060"), 0, field("0060")}, {field("0060"), 1, field("0066")}, {field("00600"), 1, field("00600")}, {field("00600"), 2, field("66666")}, {field("0006000"), 2, field("0006000")}, {field("000060000"), 3, field("000060000")}, {field("00006000"), 3, field("00006666")},
		{field("0", "3", "0", "0"), 1, field("3", "3", "0", "0")}, {field("0", "3", "0", "0"), 2, field("3", "3", "3", "3")}, {field("0", "0", "0", "3"), 2, field("0", "0", "0", "3")}, {field("0", "0", "0", "3"), 3, field("3", "3", "3", "3")}, {field("0", "0", "3"), 3, field("3", "3", "3")},
		// Steps: each column has the least of the places that reach it.
		{field("12345"), 1, field("22345")}, {field("54321"), 1, field("54322")}, {field("12345"), 2, field("33345")}, {field("12345"), 3, field("44445")}, {field("13131"), 1, field("33333")}, {field("31113"), 1, field("31113")}, {field("21112"), 2, field("22222")},
		{level(1, 1, 0), 3, level(1, 1, 0)}, {level(1, 1, 24), 3, level(1, 1, 24)}, {level(24, 24, 24), 3, level(24, 24, 24)}, {level(24, 24, 0), 3, level(24, 24, 0)},
		{field("o0o"), 1, field("ooo")}, {field("o00o"), 1, field("oooo")}, {field("o000o"), 1, field("o000o")},
	} {
		if got := checkFloor(t, c.part, c.r); !sameField(got, c.want) {
			t.Error("Floor", c.part, c.r, got, "not", c.want)
		}
	}
}

func TestFloorsOfAllSmallParts(t *testing.T) {
	for _, size := range [][2]int{{1, 1}, {1, 4}, {2, 2}, {3, 2}, {2, 3}, {5, 1}} {
		eachList([]int{0, 1, 3}, size[0]*size[1], func(tops []int) {
			if len(tops) != size[0]*size[1] {
				return
			}
			for r := range 4 {
				checkFloor(t, impl.Field{W: size[0], H: size[1], Tops: tops}, r)
			}
		})
	}
	// Each hole of a plate of three by three.
	for holes := range 512 {
		part := level(3, 3, 2)
		for i := range 9 {
			part.Tops[i] -= 2 * (holes >> i & 1)
		}
		for r := range 4 {
			checkFloor(t, part, r)
		}
	}
}

func TestFloorsOfDrawnParts(t *testing.T) {
	draw := rand.New(rand.NewSource(17))
	for range 150 {
		part := drawnField(draw, 1+draw.Intn(9), 1+draw.Intn(9), 0, 1+draw.Intn(3))
		r := draw.Intn(4)
		floor := checkFloor(t, part, r)
		if turned, _ := impl.Floor(fieldTurned(part), r); !sameField(fieldTurned(turned), floor) {
			t.Fatal("Floor", short(part), r, short(floor), "turned", short(turned))
		}
		lifted, raised := part, floor
		lifted.Tops, raised.Tops = added(part.Tops, 21), added(floor.Tops, 21)
		if got, _ := impl.Floor(lifted, r); !sameField(got, raised) {
			t.Fatal("Floor", short(lifted), r, short(got), "not", short(raised))
		}
	}
	for range 30 {
		part := drawnField(draw, 24-draw.Intn(4), 24-draw.Intn(4), 0, 24)
		r := draw.Intn(4)
		floor, code := impl.Floor(part, r)
		if code != impl.OK {
			t.Fatal("Floor", code)
		}
		checkFloorAlone(t, part, floor, r)
		// A part that is higher somewhere has no lower floor anywhere.
		higher := part
		higher.Tops = slices.Clone(part.Tops)
		higher.Tops[draw.Intn(len(part.Tops))] = 24
		above, _ := impl.Floor(higher, r)
		if below, _ := impl.Rest(floor, above); below != 0 {
			t.Fatal("Floor", short(part), short(higher), r, short(floor), short(above))
		}
	}
}

// everywhere: at each place down as low as can be, and up again.
func everywhere(part impl.Field, r int) []impl.Move {
	var moves []impl.Move
	for y := range part.H {
		for x := range part.W {
			if y%2 == 1 {
				x = part.W - 1 - x
			}
			moves = append(moves, fast(x, y, 24), to(x, y, lowestAt(part, r, x, y)), fast(x, y, 24))
		}
	}
	return moves
}

// The floor is what is left of a full stock when the tool has been everywhere
// as low as it can be; one unit lower at any place cuts the part.
func TestFloorsAreMilled(t *testing.T) {
	draw := rand.New(rand.NewSource(18))
	for range 60 {
		part := drawnField(draw, 1+draw.Intn(12), 1+draw.Intn(12), 0, 1+draw.Intn(23))
		r := draw.Intn(4)
		floor, _ := impl.Floor(part, r)
		moves := everywhere(part, r)
		got := impl.Mill(level(part.W, part.H, 24), part, r, moves)
		if got.Code != impl.OK || !sameField(got.Field, floor) {
			t.Fatal("Mill", short(part), r, short(got), "leaves another floor than", short(floor))
		}
		deeper := slices.Clone(moves)
		place := draw.Intn(len(part.Tops))*3 + 1
		deeper[place].Z--
		code := impl.ErrGouge
		if deeper[place].Z < 0 {
			code = impl.ErrRange
		}
		got = impl.Mill(level(part.W, part.H, 24), part, r, deeper)
		if got.Code != code || got.Bad != place {
			t.Fatal("Mill", short(part), r, short(got), place, code)
		}
		checkLeft(t, level(part.W, part.H, 24), part, r, got)
	}
}

func TestRestsTold(t *testing.T) {
	for _, c := range []struct {
		a, b        impl.Field
		there, back int
	}{
		{field("123", "456"), field("123", "456"), 0, 0}, {field("223", "456"), field("123", "456"), 1, 0}, {field("123", "459"), field("023", "446"), 5, 0}, {field("133", "446"), field("122", "486"), 2, 4},
		{field("0"), field("o"), 0, 24}, {level(24, 24, 24), level(24, 24, 0), 24 * 24 * 24, 0}, {level(24, 24, 7), level(24, 24, 7), 0, 0}, {field("09", "90"), field("90", "09"), 18, 18}, {field("12", "34"), field("13", "24"), 1, 1},
	} {
		if n, code := impl.Rest(c.a, c.b); n != c.there || code != impl.OK {
			t.Error("Rest", c.a, c.b, n, code)
		}
		if n, code := impl.Rest(c.b, c.a); n != c.back || code != impl.OK {
			t.Error("Rest", c.b, c.a, n, code)
		}
	}
	draw := rand.New(rand.NewSource(19))
	for range 300 {
		a := drawnField(draw, 1+draw.Intn(24), 1+draw.Intn(24), 0, 24)
		b := drawnField(draw, a.W, a.H, 0, 24)
		there, _ := impl.Rest(a, b)
		back, _ := impl.Rest(b, a)
		above := 0
		for z := range 24 {
			for i := range a.Tops {
				if a.Tops[i] > z && b.Tops[i] <= z {
					above++
				}
			}
		}
		if there != above || there-back != int(bigSum(a.Tops...).Int64()-bigSum(b.Tops...).Int64()) {
			t.Fatal("Rest", short(a), short(b), there, back, above)
		}
	}
}

// checkNoField: each call that is handed it, as either field, answers ErrBad and nothing else.
func checkNoField(t *testing.T, f impl.Field) {
	t.Helper()
	if impl.FieldOK(f) {
		t.Error("FieldOK", short(f))
	}
	good := level(3, 2, 5)
	for _, pair := range [][2]impl.Field{{f, good}, {good, f}, {f, f}} {
		checkBadFields(t, pair[0], pair[1])
	}
	for _, r := range []int{-1, 0, 3, 4, greatest} {
		checkBadFloor(t, f, r)
		checkNoContour(t, f, r, impl.ErrBad)
	}
}

func checkBadFields(t *testing.T, a, b impl.Field) {
	t.Helper()
	for _, moves := range [][]impl.Move{nil, {to(0, 0, 24)}, {to(-1, 5, 99)}, make([]impl.Move, impl.MaxMoves+1), make([]impl.Move, impl.MaxList)} {
		if got := impl.Mill(a, b, 1, moves); !sameMilled(got, impl.Milled{Code: impl.ErrBad}) {
			t.Error("Mill", short(a), short(b), len(moves), short(got))
		}
	}
	if got := impl.Mill(a, b, 1, make([]impl.Move, impl.MaxList+1)); !sameMilled(got, impl.Milled{Code: impl.ErrLong}) {
		t.Error("Mill", short(a), short(b), short(got))
	}
	if n, code := impl.Rest(a, b); n != 0 || code != impl.ErrBad {
		t.Error("Rest", short(a), short(b), n, code)
	}
	checkNoZigzag(t, a, b, 1, 7, impl.ErrBad)
}

func checkBadFloor(t *testing.T, f impl.Field, r int) {
	t.Helper()
	if got, code := impl.Floor(f, r); code != impl.ErrBad || !sameField(got, impl.Field{}) {
		t.Error("Floor", short(f), r, short(got), code)
	}
}

func TestFieldsByTheirSize(t *testing.T) {
	numbers := []int{least, least + 1, -1 << 32, -24, -3, -2, -1, 0, 1, 2, 3, 6, 23, 24, 25, 48, 576, 1 << 31, 1 << 32, 1 << 62, greatest - 1, greatest}
	for _, w := range numbers {
		for _, h := range numbers {
			for _, count := range []int{0, 1, 2, 5, 6, 7, 24, 25, 48, 575, 576, 577, 600, 625} {
				f := impl.Field{W: w, H: h, Tops: allOf(2, count)}
				right := w >= 1 && w <= 24 && h >= 1 && h <= 24 && w*h == count
				if impl.FieldOK(f) != right {
					t.Error("FieldOK", w, h, count)
				}
				if !right && (count < 8 || count > 570) {
					checkNoField(t, f)
				}
			}
		}
	}
	for w := 1; w <= 24; w++ {
		for h := 1; h <= 24; h++ {
			for extra := -1; extra <= 1; extra++ {
				if got := impl.FieldOK(impl.Field{W: w, H: h, Tops: allOf(24, w*h+extra)}); got != (extra == 0) {
					t.Error("FieldOK", w, h, extra)
				}
			}
			if m := impl.Mill(level(w, h, 9), level(w, h, 0), 3, nil); !sameMilled(m, impl.Milled{Field: level(w, h, 9)}) {
				t.Error("Mill", w, h, short(m))
			}
		}
	}
	checkNoField(t, impl.Field{})
	checkNoField(t, impl.Field{W: 1, H: 1})
	checkNoField(t, impl.Field{W: 2, H: 2, Tops: make([]int, 1<<16)})
	checkNoField(t, impl.Field{Tops: []int{1}})
}

func TestFieldsByTheirTops(t *testing.T) {
	for _, top := range []int{least, least + 1, -1 << 32, -25, -2, -1, 0, 1, 12, 23, 24, 25, 26, 1 << 32, greatest - 1, greatest} {
		for place := range 6 {
			f := level(3, 2, 3)
			f.Tops[place] = top
			if right := 0 <= top && top <= 24; right != impl.FieldOK(f) {
				t.Error("FieldOK", f)
			} else if !right {
				checkNoField(t, f)
			} else {
				checkFloor(t, f, 1)
				checkMill(t, f, f, 1, []impl.Move{to(0, 0, 24)})
			}
		}
	}
}

func TestFieldsOfDifferentSizes(t *testing.T) {
	for _, pair := range [][2]impl.Field{
		{level(3, 2, 5), level(2, 3, 5)}, {level(3, 2, 5), level(3, 1, 5)}, {level(3, 2, 5), level(6, 1, 5)}, {level(1, 6, 5), level(6, 1, 5)}, {level(3, 2, 5), level(3, 3, 5)}, {level(24, 24, 0), level(24, 23, 0)}, {level(1, 1, 0), level(2, 1, 0)},
	} {
		checkBadFields(t, pair[0], pair[1])
		checkBadFields(t, pair[1], pair[0])
	}
	// One column of the part: as high as the stock's, and one above.
	for place := range 6 {
		for top := range 25 {
			stock, part := level(3, 2, 5), level(3, 2, 4)
			part.Tops[place] = top
			want := impl.Milled{Field: stock}
			if top > 5 {
				want = impl.Milled{Code: impl.ErrBad}
			}
			checkMilled(t, stock, part, 0, nil, want)
			stock.Tops[place] = top
			checkMilled(t, stock, part, 3, nil, impl.Milled{Field: stock})
		}
	}
}

// badOrLong: the code of something wrong with so many moves.
func badOrLong(moves int) int {
	if moves > impl.MaxList {
		return impl.ErrLong
	}
	return impl.ErrBad
}

func TestToolsByTheirSize(t *testing.T) {
	stock, part := level(3, 2, 5), level(3, 2, 4)
	for _, r := range []int{least, least + 1, -1 << 32, -3, -2, -1, 0, 1, 2, 3, 4, 5, 6, 1 << 31, 1 << 32, greatest - 1, greatest} {
		right := 0 <= r && r <= 3
		for count, code := range map[int]int{0: impl.OK, impl.MaxMoves: impl.OK, impl.MaxMoves + 1: impl.ErrMany, impl.MaxList: impl.ErrMany, impl.MaxList + 1: impl.ErrLong} {
			moves := slices.Repeat([]impl.Move{fast(0, 0, 24)}, count)
			bad := impl.Milled{Code: badOrLong(count)}
			want := impl.Milled{Code: code}
			if code == impl.OK {
				want.Field = stock
			}
			if !right {
				want = bad
			}
			if got := impl.Mill(stock, part, r, moves); !sameMilled(got, want) {
				t.Error("Mill", r, count, short(got), "not", short(want))
			}
			if got := impl.Mill(part, stock, r, moves); !sameMilled(got, bad) {
				t.Error("Mill", r, count, short(got), "not", short(bad))
			}
		}
		if right {
			checkFloor(t, part, r)
		} else {
			checkBadFloor(t, part, r)
		}
	}
}

func TestMovesByTheirCount(t *testing.T) {
	stock, part := level(2, 2, 24), level(2, 2, 0)
	sway := func(count int) []impl.Move {
		moves := make([]impl.Move, count)
		for i := range moves {
			moves[i] = to((i+1)%2, 0, 24)
		}
		return moves
	}
	for _, count := range []int{1, 1999, 2000} {
		checkMilled(t, stock, part, 1, sway(count), impl.Milled{Field: stock, Air: count})
		last := sway(count)
		last[count-1] = to(0, 1, 25)
		checkMilled(t, stock, part, 1, last, impl.Milled{Code: impl.ErrRange, Bad: count - 1, Field: stock, Air: count - 1})
	}
	for count, code := range map[int]int{2001: impl.ErrMany, 4095: impl.ErrMany, 4096: impl.ErrMany, 4097: impl.ErrLong, 9000: impl.ErrLong} {
		checkMilled(t, stock, part, 1, sway(count), impl.Milled{Code: code})
		wrong := sway(count)
		wrong[0] = to(-1, 0, 0)
		checkMilled(t, stock, part, 1, wrong, impl.Milled{Code: code})
		checkMilled(t, stock, part, 4, wrong, impl.Milled{Code: badOrLong(count)})
		checkMilled(t, part, stock, 1, wrong, impl.Milled{Code: badOrLong(count)})
	}
}

func TestMillingAnswersAreNewMemory(t *testing.T) {
	for _, moves := range [][]impl.Move{
		nil, {to(0, 0, 3)}, {to(0, 0, 4), to(2, 0, 4)}, {to(0, 0, 4), to(2, 0, 4), to(2, 0, 3)}, {fast(0, 0, 4)}, {to(0, 0, 3), to(2, 2, 2)}, {to(-1, 0, 0)}, make([]impl.Move, impl.MaxMoves+1), make([]impl.Move, impl.MaxList+1),
	} {
		behind := []int{77, 88}
		stockArray := append(field("555", "556").Tops, behind...)
		partArray := append(field("114", "114").Tops, behind...)
		stock, part := impl.Field{W: 3, H: 2, Tops: stockArray[:6]}, impl.Field{W: 3, H: 2, Tops: partArray[:6]}
		moveArray := append(slices.Clone(moves), to(66, 55, 44))
		given := moveArray[:len(moves)]
		for r := -1; r <= 4; r++ {
			all := func() string {
				m := impl.Mill(stock, part, r, given)
				floor, floorCode := impl.Floor(part, r)
				there, thereCode := impl.Rest(stock, part)
				told := fmt.Sprint(m, floor, floorCode, there, thereCode, impl.FieldOK(stock))
				spoilNumbers(m.Field.Tops[:cap(m.Field.Tops)])
				spoilNumbers(floor.Tops[:cap(floor.Tops)])
				return told
			}
			first := all()
			if again := all(); again != first {
				t.Error("answers share memory", short(moves), r, first, again)
			}
		}
		if !slices.Equal(stockArray, append(field("555", "556").Tops, behind...)) || !slices.Equal(partArray, append(field("114", "114").Tops, behind...)) || !slices.Equal(moveArray, append(slices.Clone(moves), to(66, 55, 44))) {
			t.Error("an argument was changed", stockArray, partArray, short(moveArray))
		}
	}
}

// millingCalls: calls of every function of the layer, right, at an edge and wrong.
func millingCalls() []func() string {
	var calls []func() string
	tell := func(call func() string) { calls = append(calls, call) }
	fields := []impl.Field{field("555", "555"), field("114", "114"), field("666", "606", "666"), level(24, 24, 24), level(24, 24, 0), level(25, 1, 0), {}, {W: greatest, H: least, Tops: []int{1}}, {W: 1, H: 1, Tops: []int{25}}}
	ways := [][]impl.Move{nil, {to(0, 0, 4), to(1, 0, 4)}, {to(0, 0, 3), to(0, 0, 0)}, {fast(0, 0, 4)}, {to(1, 1, 24)}, {to(greatest, 0, least)}, make([]impl.Move, impl.MaxMoves+1), make([]impl.Move, impl.MaxList+1)}
	for _, a := range fields {
		tell(func() string { return fmt.Sprint(impl.FieldOK(a)) })
		for _, r := range []int{least, -1, 0, 1, 2, 3, 4, greatest} {
			tell(func() string { return fmt.Sprint(impl.Floor(a, r)) })
		}
		for _, b := range fields {
			tell(func() string { return fmt.Sprint(impl.Rest(a, b)) })
			for i, moves := range ways {
				tell(func() string { return fmt.Sprint(impl.Mill(a, b, i%5, moves)) })
			}
		}
	}
	return calls
}
