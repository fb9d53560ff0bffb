package tests

import (
	"fmt"
	"math/rand"
	"slices"
	"testing"

	"loop.example/g00056/impl"
)

// from tells the same polygon begun at another corner.
func from(p []impl.Point, corner int) []impl.Point {
	return slices.Concat(p[corner:], p[:corner])
}

func backwards(p []impl.Point) []impl.Point {
	list := slices.Clone(p)
	slices.Reverse(list)
	return list
}

// comb is right and has a number of corners that can be divided by 4.
func comb(corners int) []impl.Point {
	var p []impl.Point
	for x := 0; x < corners/2; x += 2 {
		p = append(p, at(x, 0), at(x+1, 0))
	}
	for x := corners/2 - 1; x > 0; x -= 2 {
		p = append(p, at(x, 9), at(x-1, 5))
	}
	return p
}

func flat(count int) []impl.Point {
	p := make([]impl.Point, count)
	for i := range p {
		p[i] = at(i%impl.MaxCorners, i*i%7919)
	}
	return p
}

var ell = points(0, 0, 4, 0, 4, 1, 1, 1, 1, 3, 0, 3)

func TestPolygonCodeOfRightOnes(t *testing.T) {
	const m = impl.MaxAt
	for _, p := range [][]impl.Point{
		points(0, 0, 4, 0, 0, 3), ell, comb(8), comb(impl.MaxCorners), points(-m, -m, m, -m, m, m, -m, m), points(-m, -m, m, m, m, m-1), points(m, m, m, -m, -m, m),
		points(0, 0, 2, 0, 4, 0, 2, 3), points(0, 0, 1, 1, 2, 2, 3, 3, 0, 3), points(0, 0, 0, 1, 0, 2, 1, 2), // straight corners
		points(0, 0, 6, 0, 6, 6, 5, 1), points(0, 0, 4, 0, 4, 4, 3, 1, 2, 4, 1, 1, 0, 4), // far in
	} {
		for corner := range p {
			for _, q := range [][]impl.Point{from(p, corner), backwards(from(p, corner))} {
				if code, number := impl.PolygonCode(q); code != impl.OK || number != 0 {
					t.Error("PolygonCode", q, code, number)
				}
			}
		}
	}
}

func TestPolygonCodeOfWrongOnes(t *testing.T) {
	const m = impl.MaxAt
	for _, c := range []struct {
		p            []impl.Point
		code, number int
	}{
		{nil, impl.ErrForm, 0}, {points(), impl.ErrForm, 0}, {points(1, 1), impl.ErrForm, 0}, {points(0, 0, 1, 0), impl.ErrForm, 0}, {points(0, 0, 0, 0), impl.ErrForm, 0},
		{points(m+1, 0), impl.ErrBad, 0}, {points(0, 0, 0, least), impl.ErrBad, 1}, {points(0, 0, 1, 0, 1, greatest), impl.ErrBad, 2}, {points(0, 0, 0, -m-1, m+1, 0), impl.ErrBad, 1},
		{points(0, 0, 0, 0, 0, 0, 5, m+1), impl.ErrBad, 3}, {points(0, 0, 2, 2, 2, 0, 0, m+1), impl.ErrBad, 3}, // ahead of ErrTwice, of ErrState
		{points(0, 0, 2, 0, 0, 0), impl.ErrTwice, 2}, {points(0, 0, 0, 0, 2, 0), impl.ErrTwice, 1}, {points(0, 0, 0, 0, 0, 0), impl.ErrTwice, 1},
		{points(0, 0, 3, 0, 3, 3, 3, 0, 0, 0), impl.ErrTwice, 3}, {points(0, 0, 4, 4, 4, 0, 0, 4, 4, 4), impl.ErrTwice, 4}, // ahead of ErrState
		{points(5, 5, 0, 0, 9, 0, 5, 5, 0, 9), impl.ErrTwice, 3},
		{points(0, 0, 2, 2, 2, 0, 0, 2), impl.ErrState, 0}, {points(-5, 2, 0, 0, 4, 0, 0, 4, 4, 4), impl.ErrState, 2},
		{points(0, -1, 2, 0, 4, 4, 4, 0, 2, 4), impl.ErrState, 1},
		{points(0, 0, 4, 0, 2, 0), impl.ErrState, 0}, {points(0, 0, 2, 0, 4, 0), impl.ErrState, 0}, {points(0, 0, 1, 1, 3, 3), impl.ErrState, 0}, // no triangle
		{points(0, 5, 0, 0, 4, 0, 2, 0, 2, 5), impl.ErrState, 1},       // back over the side ahead
		{points(0, 5, 0, 0, 4, 0, -2, 0, -2, 5), impl.ErrState, 0},     // back over it and beyond, through a corner
		{points(0, 0, 4, 0, 4, 4, 2, 0, 0, 4), impl.ErrState, 0},       // a corner on a side
		{points(2, 0, 0, 4, 0, 0, 4, 0, 4, 4), impl.ErrState, 0},       // the same, begun elsewhere: the side that goes from it
		{points(0, 4, 0, 0, 4, 0, 4, 4, 2, 0), impl.ErrState, 1},       // the side that it is on
		{points(0, 0, 8, 0, 8, 4, 6, 0, 2, 0, 0, 4), impl.ErrState, 0}, // sides over one another, further apart
		{points(0, 9, 0, 0, 8, 0, 8, 4, 6, 0, 2, 0), impl.ErrState, 1},
		{points(1, 0, 3, 0, 3, 2, 4, 2, 4, 0, 9, 0, 9, 5, 2, 0), impl.ErrState, 0},
		{comb(impl.MaxCorners + 4), impl.ErrMany, 0}, {append(comb(impl.MaxCorners), at(-3, 2)), impl.ErrMany, 0},
		{flat(impl.MaxList), impl.ErrMany, 0}, {flat(impl.MaxList + 1), impl.ErrLong, 0}, {make([]impl.Point, impl.MaxCorners+1), impl.ErrMany, 0}, {make([]impl.Point, impl.MaxList+1), impl.ErrLong, 0},
		{append(make([]impl.Point, impl.MaxCorners), at(greatest, 0)), impl.ErrMany, 0}, {append(make([]impl.Point, impl.MaxList), at(greatest, 0)), impl.ErrLong, 0},
		{make([]impl.Point, impl.MaxCorners), impl.ErrTwice, 1}, {append(comb(impl.MaxCorners-4), at(-9, 5), at(-8, 9), at(-7, 5), at(0, 0)), impl.ErrTwice, impl.MaxCorners - 1},
	} {
		if code, number := impl.PolygonCode(c.p); code != c.code || number != c.number {
			t.Errorf("PolygonCode of %d points, %.60s ..: %d %d, not %d %d", len(c.p), fmt.Sprint(c.p), code, number, c.code, c.number)
		}
		want := impl.ErrBad
		if c.code == impl.ErrLong {
			want = impl.ErrLong
		}
		if area, code := impl.Area2(c.p); area != 0 || code != want {
			t.Errorf("Area2 of %d points, %.60s ..: %d %d", len(c.p), fmt.Sprint(c.p), area, code)
		}
		if place, code := impl.Within(c.p, at(1, 1)); place != 0 || code != want {
			t.Errorf("Within %d points, %.60s ..: %d %d", len(c.p), fmt.Sprint(c.p), place, code)
		}
		if place, code := impl.Within(c.p, at(1, impl.MaxAt+1)); place != 0 || code != want {
			t.Errorf("Within %d points, %.60s .., of a wrong point: %d %d", len(c.p), fmt.Sprint(c.p), place, code)
		}
	}
}

// exactCode goes by the words of the document, and by the exact crossings.
func exactCode(p []impl.Point) (int, int) {
	if len(p) < 3 {
		return impl.ErrForm, 0
	}
	for i := range p {
		for j := range i {
			if p[i] == p[j] {
				return impl.ErrTwice, i
			}
		}
	}
	for i := range p {
		for j := range p {
			if i == j {
				continue
			}
			common := exactCross(p[i], p[(i+1)%len(p)], p[j], p[(j+1)%len(p)])
			neighbours := (i+1)%len(p) == j || (j+1)%len(p) == i
			if len(common) > 1 || len(common) == 1 && !neighbours {
				return impl.ErrState, i
			}
		}
	}
	return impl.OK, 0
}

func eachRow(of []impl.Point, length int, do func([]impl.Point)) {
	row := make([]impl.Point, length)
	var fill func(int)
	fill = func(n int) {
		if n == length {
			do(row)
			return
		}
		for _, row[n] = range of {
			fill(n + 1)
		}
	}
	fill(0)
}

// checkPolygon holds all that is told of one polygon against exact numbers and
// against each other, and tells whether it is right.
func checkPolygon(t *testing.T, p []impl.Point) bool {
	t.Helper()
	code, number := impl.PolygonCode(p)
	if wantCode, wantNumber := exactCode(p); code != wantCode || number != wantNumber {
		t.Fatal("PolygonCode", p, code, number, "not", wantCode, wantNumber)
	}
	area, areaCode := impl.Area2(p)
	place, placeCode := impl.Within(p, p[0])
	if code != impl.OK {
		if area != 0 || areaCode != impl.ErrBad || place != 0 || placeCode != impl.ErrBad {
			t.Fatal("of a wrong polygon", p, area, areaCode, place, placeCode)
		}
		return false
	}
	if areaCode != impl.OK || placeCode != impl.OK || place != 0 {
		t.Fatal("of a right polygon", p, areaCode, placeCode, place)
	}
	checkPlaces(t, p, area)
	return true
}

// checkPlaces: twice the area is twice the points inside and those on the
// sides, less 2 (Pick); and each point lies where a way outwards that goes
// past all others finds it.
func checkPlaces(t *testing.T, p []impl.Point, area int) {
	t.Helper()
	inside, on := 0, 0
	low, high := slices.MinFunc(p, byX).X-1, slices.MaxFunc(p, byX).X+1
	bottom, top := slices.MinFunc(p, byY).Y-1, slices.MaxFunc(p, byY).Y+1
	for x := low; x <= high; x++ {
		for y := bottom; y <= top; y++ {
			place, code := impl.Within(p, at(x, y))
			if want := exactPlace(p, at(x, y)); place != want || code != impl.OK {
				t.Fatal("Within", p, x, y, place, code, "not", want)
			}
			switch place {
			case 1:
				inside++
			case 0:
				on++
			}
		}
	}
	if max(area, -area) != 2*inside+on-2 {
		t.Fatal("Area2", p, area, "with points inside and on the sides", inside, on)
	}
}

func byX(a, b impl.Point) int { return a.X - b.X }

func byY(a, b impl.Point) int { return a.Y - b.Y }

// exactPlace goes from x upwards by one in so many steps to the left that it
// meets no other point of the neighbourhood.
func exactPlace(p []impl.Point, x impl.Point) int {
	far, place := at(x.X-10007, x.Y+1), -1
	for i := range p {
		a, b := p[i], p[(i+1)%len(p)]
		if exactPoint(x).on(exactPoint(a), exactPoint(b)) {
			return 0
		}
		if exactTurn(a, b, x)*exactTurn(a, b, far) < 0 && exactTurn(x, far, a)*exactTurn(x, far, b) < 0 {
			place = -place
		}
	}
	return place
}

func TestAllNearPolygons(t *testing.T) {
	for _, c := range []struct{ side, corners, right int }{{3, 3, 456}, {3, 4, 1136}, {4, 3, 3096}, {2, 4, 8}} {
		right := 0
		eachRow(square(c.side), c.corners, func(p []impl.Point) {
			if checkPolygon(t, p) {
				right++
			}
		})
		if right != c.right {
			t.Error("right polygons of", c.corners, "corners on a square of", c.side, ":", right)
		}
	}
}

func TestDrawnPolygons(t *testing.T) {
	draw := rand.New(rand.NewSource(43))
	right := 0
	for range 4000 {
		p := make([]impl.Point, 4+draw.Intn(5))
		for i := range p {
			p[i] = at(draw.Intn(7)-3, draw.Intn(7)-3)
		}
		if checkPolygon(t, p) {
			right++
			checkFromEachCorner(t, p)
		}
	}
	if right < 100 {
		t.Error("too few right polygons were drawn:", right)
	}
}

func checkFromEachCorner(t *testing.T, p []impl.Point) {
	t.Helper()
	area, _ := impl.Area2(p)
	for corner := range p {
		q := from(p, corner)
		if code, number := impl.PolygonCode(q); code != impl.OK || number != 0 {
			t.Fatal("PolygonCode from another corner", q, code, number)
		}
		if got, code := impl.Area2(q); got != area || code != impl.OK {
			t.Fatal("Area2 from another corner", q, got, code, "not", area)
		}
		if got, code := impl.Area2(backwards(q)); got != -area || code != impl.OK {
			t.Fatal("Area2 backwards", q, got, code, "not", -area)
		}
		for _, x := range square(3) {
			want, _ := impl.Within(p, x)
			for _, r := range [][]impl.Point{q, backwards(q)} {
				if got, code := impl.Within(r, x); got != want || code != impl.OK {
					t.Fatal("Within from another corner", r, x, got, code, "not", want)
				}
			}
		}
	}
}

func TestArea2(t *testing.T) {
	const m = impl.MaxAt
	for _, c := range []struct {
		p    []impl.Point
		want int
	}{
		{ell, 12}, {points(0, 0, 4, 0, 0, 3), 12}, {points(0, 0, 0, 3, 4, 0), -12}, {points(0, 0, 2, 0, 4, 0, 2, 3), 12}, {points(5, 5, 6, 5, 5, 6), 1}, {comb(impl.MaxCorners), 1386}, {backwards(from(comb(impl.MaxCorners), 77)), -1386},
		{points(-m, -m, m, -m, m, m, -m, m), 8 * m * m}, {points(-m, -m, -m, m, m, m, m, -m), -8 * m * m}, {points(-m, -m, m, m, m-1, m), 2 * m}, {points(m, m, m, -m, m-1, m), -2 * m},
	} {
		if got, code := impl.Area2(c.p); got != c.want || code != impl.OK {
			t.Error("Area2", c.p, got, code, "not", c.want)
		}
	}
	for _, p := range [][]impl.Point{ell, comb(40), points(-m, -m, m, m, m-1, m), points(0, 0, 2, 0, 4, 0, 2, 3)} {
		checkFromEachCorner(t, p)
	}
}

func TestWithin(t *testing.T) {
	const m = impl.MaxAt
	star := points(0, 0, 3, 2, 6, 0, 4, 3, 6, 6, 3, 4, 0, 6, 2, 3)
	big := points(-m, -m, m, -m, m, m, -m, m)
	thin := points(-m, -m, m, m-1, m, m)
	for _, c := range []struct {
		p    []impl.Point
		x    impl.Point
		want int
	}{
		{ell, at(1, 1), 0}, {ell, at(2, 2), -1}, {ell, at(0, 2), 0}, {ell, at(3, 0), 0}, {ell, at(5, 0), -1}, {ell, at(-1, 1), -1}, {ell, at(-1, 3), -1}, {ell, at(-1, 0), -1}, {ell, at(2, 3), -1}, {ell, at(0, 0), 0}, {ell, at(4, 1), 0},
		{star, at(3, 3), 1}, {star, at(1, 3), -1}, {star, at(2, 3), 0}, {star, at(-1, 3), -1}, {star, at(5, 3), -1}, {star, at(3, 2), 0}, {star, at(3, 1), -1}, {star, at(1, 1), 1}, {star, at(5, 5), 1}, {star, at(-1, 0), -1}, {star, at(1, 6), -1}, {star, at(1, 4), -1},
		{big, at(0, 0), 1}, {big, at(m, m), 0}, {big, at(-m, -m), 0}, {big, at(m, 0), 0}, {big, at(0, -m), 0}, {big, at(m-1, m-1), 1}, {big, at(1-m, m-1), 1},
		{thin, at(0, 0), 0}, {thin, at(m, m-1), 0}, {thin, at(m-1, m-1), 0}, {thin, at(m-1, m-2), -1}, {thin, at(1, 0), -1}, {thin, at(0, 1), -1},
	} {
		if got, code := impl.Within(c.p, c.x); got != c.want || code != impl.OK {
			t.Error("Within", c.p, c.x, got, code, "not", c.want)
		}
	}
	for _, wrong := range wrongPoints {
		if got, code := impl.Within(big, wrong); got != 0 || code != impl.ErrBad {
			t.Error("Within, a wrong point", wrong, got, code)
		}
	}
}

func TestHull(t *testing.T) {
	const m = impl.MaxAt
	for _, c := range []struct{ p, want []impl.Point }{
		{points(2, 2, 0, 0, 4, 0, 2, 0, 4, 4, 0, 0, 0, 4, 1, 1), points(0, 0, 4, 0, 4, 4, 0, 4)},
		{points(0, 4, 4, 4, 4, 0, 0, 0), points(0, 0, 4, 0, 4, 4, 0, 4)}, {points(0, 1, 2, 0, 2, 3, 0, 2), points(0, 1, 2, 0, 2, 3, 0, 2)},
		{points(4, 2, 2, 4, 0, 2, 2, 0, 1, 1, 3, 3, 1, 3, 3, 1), points(0, 2, 2, 0, 4, 2, 2, 4)}, {points(0, 0, 5, 1, 5, 5), points(0, 0, 5, 1, 5, 5)}, {points(0, 0, 5, 5, 5, 1), points(0, 0, 5, 1, 5, 5)},
		{points(3, 3, 1, 1, 2, 2), points(1, 1, 3, 3)}, {points(5, 2, -3, 2, 0, 2), points(-3, 2, 5, 2)}, {points(2, 5, 2, -3, 2, 0), points(2, -3, 2, 5)}, {points(3, -3, 1, 1, 2, -1, 1, 1), points(1, 1, 3, -3)},
		{points(4, 4, 1, 4), points(1, 4, 4, 4)}, {points(3, 3), points(3, 3)}, {points(3, 3, 3, 3), points(3, 3)}, {points(3, 3, 3, 3, 1, 2, 1, 2), points(1, 2, 3, 3)},
		{points(m, m, -m, m, m, -m, -m, -m, 0, 0, m, 0), points(-m, -m, m, -m, m, m, -m, m)}, {points(-m, -m, m, m, m-1, m), points(-m, -m, m, m, m-1, m)}, {points(-m, m), points(-m, m)},
	} {
		got, code := impl.Hull(c.p)
		if !slices.Equal(got, c.want) || code != impl.OK {
			t.Error("Hull", c.p, got, code, "not", c.want)
		}
	}
}

// exactHull: a corner is a point that lies neither between two others nor
// within three of them; the corners after the least one are told by their turns.
func exactHull(p []impl.Point) []impl.Point {
	var single []impl.Point
	for _, x := range p {
		if !slices.Contains(single, x) {
			single = append(single, x)
		}
	}
	corners := slices.DeleteFunc(slices.Clone(single), func(x impl.Point) bool { return coveredBy(single, x) })
	least := slices.MinFunc(corners, func(a, b impl.Point) int { return exactPoint(a).compare(exactPoint(b)) })
	corners = slices.DeleteFunc(corners, func(x impl.Point) bool { return x == least })
	slices.SortFunc(corners, func(a, b impl.Point) int { return -exactTurn(least, a, b) })
	return append([]impl.Point{least}, corners...)
}

func coveredBy(single []impl.Point, x impl.Point) bool {
	for _, a := range single {
		for _, b := range single {
			if a == x || b == x || a == b {
				continue
			}
			if exactPoint(x).on(exactPoint(a), exactPoint(b)) {
				return true
			}
			for _, c := range single {
				if c != x && exactTurn(a, b, x) > 0 && exactTurn(b, c, x) > 0 && exactTurn(c, a, x) > 0 {
					return true
				}
			}
		}
	}
	return false
}

func TestHullOfDrawnPoints(t *testing.T) {
	draw := rand.New(rand.NewSource(44))
	for _, reach := range []int{1, 2, 4, 30, impl.MaxAt} {
		for range 300 {
			p := make([]impl.Point, 1+draw.Intn(9))
			for i := range p {
				p[i] = at(draw.Intn(2*reach+1)-reach, draw.Intn(2*reach+1)-reach)
			}
			got, code := impl.Hull(p)
			if want := exactHull(p); !slices.Equal(got, want) || code != impl.OK {
				t.Fatal("Hull", p, got, code, "not", want)
			}
			again, _ := impl.Hull(from(got, len(got)-1))
			if !slices.Equal(again, got) {
				t.Fatal("Hull of a hull", got, again)
			}
		}
	}
}

func TestHullOfManyPoints(t *testing.T) {
	round := make([]impl.Point, impl.MaxCorners) // a parabola: each point is a corner
	for i := range round {
		round[i] = at(i, i*i)
	}
	if got, code := impl.Hull(backwards(round)); !slices.Equal(got, round) || code != impl.OK {
		t.Error("Hull of", impl.MaxCorners, "points", got, code)
	}
	for _, c := range []struct {
		p    []impl.Point
		code int
	}{
		{nil, impl.ErrBad}, {points(), impl.ErrBad}, {make([]impl.Point, impl.MaxCorners), impl.OK}, {make([]impl.Point, impl.MaxCorners+1), impl.ErrBad},
		{make([]impl.Point, impl.MaxList), impl.ErrBad}, {make([]impl.Point, impl.MaxList+1), impl.ErrLong}, {append(make([]impl.Point, impl.MaxList), at(least, 0)), impl.ErrLong},
	} {
		got, code := impl.Hull(c.p)
		if code != c.code || code != impl.OK && len(got) != 0 {
			t.Error("Hull of", len(c.p), "points:", got, code)
		}
	}
	for _, wrong := range wrongPoints {
		for place := range 3 {
			p := points(0, 0, 4, 0, 0, 4)
			p[place] = wrong
			if got, code := impl.Hull(p); len(got) != 0 || code != impl.ErrBad {
				t.Error("Hull", p, got, code)
			}
		}
	}
}

func TestPlaneAnswersAreNewMemory(t *testing.T) {
	behind := at(77, 77)
	for _, p := range [][]impl.Point{points(2, 2, 4, 4, 0, 0, 4, 0, 0, 0, 0, 4), points(1, 1), ell, points(0, 0, 4, 0, 2, 3)} {
		array := append(slices.Clone(p), behind, behind, behind)
		given := array[:len(p)]
		first, _ := impl.Hull(given)
		impl.PolygonCode(given)
		impl.Area2(given)
		impl.Within(given, at(1, 1))
		if !slices.Equal(array, append(slices.Clone(p), behind, behind, behind)) {
			t.Error("an argument was changed", p, array)
		}
		kept := slices.Clone(first)
		for i := range first[:cap(first)] {
			first[:cap(first)][i] = behind
		}
		if again, _ := impl.Hull(given); !slices.Equal(again, kept) || !slices.Equal(given, p) {
			t.Error("Hull shares memory", p, again, kept)
		}
	}
	_, first, _ := impl.Cross(at(0, 0), at(4, 0), at(1, 0), at(9, 0))
	first[0], first[1] = impl.Spot{}, impl.Spot{}
	if _, again, _ := impl.Cross(at(0, 0), at(4, 0), at(1, 0), at(9, 0)); again[0] != (impl.Spot{X: 1, D: 1}) || again[1] != (impl.Spot{X: 4, D: 1}) {
		t.Error("Cross shares memory", again)
	}
}

// planeCalls: calls of every function of the layer, right, at an edge and wrong.
func planeCalls() []func() string {
	var calls []func() string
	tell := func(call func() string) { calls = append(calls, call) }
	for _, p := range [][]impl.Point{nil, ell, comb(impl.MaxCorners), flat(impl.MaxList), flat(impl.MaxList + 1), points(0, 0, 2, 2, 2, 0, 0, 2), points(1, 1, 1, 1), points(0, 0, 1, 0, 1, greatest)} {
		tell(func() string { return fmt.Sprint(impl.PolygonCode(p)) })
		tell(func() string { return fmt.Sprint(impl.Area2(p)) })
		tell(func() string { return fmt.Sprint(impl.Hull(p)) })
		for _, x := range append(square(3), wrongPoints...) {
			tell(func() string { return fmt.Sprint(impl.Within(p, x)) })
		}
	}
	few := append(points(0, 0, 3, 1, 0, 1, 3, 0, impl.MaxAt, -impl.MaxAt), wrongPoints[0])
	for _, a := range few {
		for _, b := range few {
			for _, c := range few {
				tell(func() string { return fmt.Sprint(impl.Turn(a, b, c)) })
				tell(func() string { return fmt.Sprint(impl.Cross(a, b, c, at(3, 0))) })
			}
		}
	}
	return calls
}
