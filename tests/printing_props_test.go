package tests

import (
	"fmt"
	"slices"
	"strings"
	"testing"

	"loop.example/g00056/impl"
)

// underOne are the ways from the cell below to those that hold up the one above.
var underOne = [][2]int{{0, 0}, {-1, 0}, {1, 0}, {0, -1}, {0, 1}}

func (d *dots) hangs(x, y, z int) bool {
	if z == 0 || !d.at(x, y, z) {
		return false
	}
	return !slices.ContainsFunc(underOne, func(way [2]int) bool { return d.at(x+way[0], y+way[1], z-1) })
}

// propped are the cells that are propped, found cell by cell below each that hangs.
func (d *dots) propped() *dots {
	var below dots
	for x := range d {
		for y := range d[x] {
			for z := range d[x][y] {
				for down := z - 1; down >= 0 && d.hangs(x, y, z) && !d[x][y][down]; down-- {
					below[x][y][down] = true
				}
			}
		}
	}
	return &below
}

// exactProps reads the propped cells column by column: between two props of a
// column stands the cell that is propped by the lower one.
func exactProps(d *dots) []impl.Prop {
	var props []impl.Prop
	below := d.propped()
	for y := range impl.Grid {
		for x := range impl.Grid {
			for z := range impl.Grid {
				if !below[x][y][z] {
					continue
				}
				if !below.at(x, y, z-1) {
					props = append(props, impl.Prop{X: x, Y: y, Z0: z})
				}
				props[len(props)-1].Z1 = z + 1
			}
		}
	}
	return props
}

// propsTold reads "3,4:0-2": at X 3 and Y 4, from 0 to 1.
func propsTold(t *testing.T, told string) []impl.Prop {
	t.Helper()
	var props []impl.Prop
	for _, word := range strings.Fields(told) {
		var p impl.Prop
		scan(t, word, "%d,%d:%d-%d", &p.X, &p.Y, &p.Z0, &p.Z1)
		props = append(props, p)
	}
	return props
}

func checkPropsTold(t *testing.T, v version, told string) {
	t.Helper()
	got, code := impl.Props(v.list, v.off)
	if want := propsTold(t, told); code != impl.OK || !slices.Equal(got, want) {
		t.Error("Props", short(v), short(got), code, "not", short(want))
	}
	checkPrinting(t, v)
}

// checkProps holds what is told against the cells, one by one.
func checkProps(t *testing.T, v version, d *dots) []impl.Prop {
	t.Helper()
	props, code := impl.Props(v.list, v.off)
	if want := exactProps(d); code != impl.OK || !slices.Equal(props, want) {
		t.Fatal("Props", v, props, code, "not", want)
	}
	var told dots
	for _, p := range props {
		for z := p.Z0; z < p.Z1; z++ {
			if d[p.X][p.Y][z] || told[p.X][p.Y][z] {
				t.Fatal("Props", v, p, "is not empty, or propped twice, at", z)
			}
			told[p.X][p.Y][z] = true
		}
		if p.Z0 >= p.Z1 || p.Z0 > 0 && !d[p.X][p.Y][p.Z0-1] || !d.hangs(p.X, p.Y, p.Z1) {
			t.Fatal("Props", v, p, "stands on nothing, or below what does not hang")
		}
	}
	both := d.with(&told)
	for x := range both {
		for y := range both[x] {
			for z := range both[x][y] {
				if both.hangs(x, y, z) {
					t.Fatal("Props", v, props, "and still hangs", x, y, z)
				}
				if d.hangs(x, y, z) && !told[x][y][z-1] {
					t.Fatal("Props", v, props, "and none below", x, y, z)
				}
			}
		}
	}
	return props
}

func TestPropsTold(t *testing.T) {
	one := fill("a", box(5, 6, 9, 6, 7, 10))
	for _, c := range []struct {
		v    version
		told string
	}{
		// on the ground nothing hangs, alone or not
		{of(fill("a", unit)), ""},
		{of(fill("a", box(9, 9, 0, 10, 10, 1))), ""},
		{of(fill("a", box(23, 23, 0, 24, 24, 1))), ""},
		{version{list: pile(4, 5, 0, "#.#.#/.../#...#")}, ""},
		{of(fill("a", box(0, 0, 0, 24, 24, 24))), ""},
		// above nothing: down to 0
		{of(one), "5,6:0-9"},
		{of(fill("a", box(5, 6, 1, 6, 7, 2))), "5,6:0-1"},
		{of(fill("a", box(0, 0, 1, 1, 1, 2))), "0,0:0-1"},
		{of(fill("a", box(23, 23, 23, 24, 24, 24))), "23,23:0-23"},
		{of(fill("a", box(0, 23, 23, 1, 24, 24))), "0,23:0-23"},
		{of(fill("a", box(23, 0, 23, 24, 1, 24))), "23,0:0-23"},
		// above a filled one, with empty cells between
		{of(one, fill("b", box(5, 6, 0, 6, 7, 1))), "5,6:1-9"},
		{of(one, fill("b", box(5, 6, 7, 6, 7, 8))), "5,6:0-7 5,6:8-9"},
		{of(one, fill("b", box(5, 6, 0, 6, 7, 8))), "5,6:8-9"},
		{of(one, fill("b", box(5, 6, 0, 6, 7, 9))), ""},
		{of(one, fill("b", box(0, 0, 0, 24, 24, 3))), "5,6:3-9"},
		{of(one, fill("b", box(0, 0, 0, 24, 24, 3)), empty("p", box(5, 6, 0, 6, 7, 3))), "5,6:0-9"},
		// the lower part of what stands hangs, the upper one rests on it
		{of(fill("a", box(5, 6, 4, 6, 7, 10))), "5,6:0-4"},
		{of(fill("a", box(5, 6, 0, 6, 7, 10)), empty("p", box(5, 6, 2, 6, 7, 4))), "5,6:2-4"},
		// several at one place
		{version{list: pile(5, 6, 0, "#", "", "", "#", "", "#")}, "5,6:1-3 5,6:4-5"},
		{version{list: pile(5, 6, 1, "#", "", "#", "", "#", "#", "", "", "#")}, "5,6:0-1 5,6:2-3 5,6:4-5 5,6:7-9"},
		// side by side: each is propped, none by the other's prop
		{of(fill("a", box(3, 4, 2, 6, 5, 3))), "3,4:0-2 4,4:0-2 5,4:0-2"},
		{of(fill("a", box(3, 4, 2, 4, 7, 3))), "3,4:0-2 3,5:0-2 3,6:0-2"},
		{of(fill("a", box(3, 4, 2, 5, 6, 3))), "3,4:0-2 4,4:0-2 3,5:0-2 4,5:0-2"},
		{of(fill("a", box(3, 4, 2, 5, 6, 9))), "3,4:0-2 4,4:0-2 3,5:0-2 4,5:0-2"},
		// a stair that goes out by one at each step holds, by two it does not
		{version{list: pile(3, 4, 0, "#", ".#", "..#", "...#")}, ""},
		{version{list: pile(3, 4, 0, "#", ".", "..#", "....#")}, "5,4:0-2 7,4:0-3"},
		{version{list: pile(3, 4, 0, "#", "###", "#####")}, "5,4:0-1 7,4:0-2"},
		{version{list: pile(3, 4, 0, "#/./.", "#/#/.", "#/#/#")}, ""},
		{version{list: pile(3, 4, 0, "#/./.", "./#/.", "././#")}, ""},
		{version{list: pile(3, 4, 0, "#/./.", "././#")}, "3,6:0-1"},
		{version{list: pile(3, 4, 0, "#/.", "./.#")}, "4,5:0-1"},
		// a bridge: the middle of it hangs if it is three wide or more
		{version{list: pile(0, 0, 0, "#.#", "#.#", "###")}, ""},
		{version{list: pile(0, 0, 0, "#..#", "#..#", "####")}, ""},
		{version{list: pile(0, 0, 0, "#...#", "#...#", "#####")}, "2,0:0-2"},
		{version{list: pile(0, 0, 0, "#....#", "#....#", "######")}, "2,0:0-2 3,0:0-2"},
		{version{list: pile(0, 0, 0, "##.##", "#...#", "#####")}, "2,0:0-2"},
		{version{list: pile(0, 0, 0, "#####", "#...#", "#####")}, "2,0:1-2"},
		// a foot, a stem and a roof
		{version{list: pile(0, 1, 0, ".###", "..#", "..#", "######")}, "0,1:0-3 4,1:0-3 5,1:0-3"},
		{version{list: pile(0, 1, 0, "####", "..#", "..#", "######")}, "0,1:1-3 4,1:0-3 5,1:0-3"},
		// a tunnel, and a hollow
		{of(fill("a", box(2, 3, 0, 7, 6, 5)), empty("p", box(3, 0, 1, 6, 24, 4))), "4,3:1-4 4,4:1-4 4,5:1-4"},
		{of(fill("a", box(0, 0, 0, 5, 5, 5)), empty("p", box(1, 1, 1, 4, 4, 4))), "2,2:1-4"},
		{of(fill("a", box(0, 0, 0, 5, 5, 5)), empty("p", box(1, 1, 1, 3, 3, 3))), ""},
		// by Y, then X, then Z0, whatever the order of the features
		{of(
			fill("a", box(3, 4, 7, 4, 5, 8)), fill("b", box(9, 2, 5, 10, 3, 6)), fill("c", box(0, 4, 23, 1, 5, 24)), fill("d", box(3, 4, 2, 4, 5, 3)),
			fill("e", box(20, 2, 1, 21, 3, 2)), fill("f", box(23, 0, 3, 24, 1, 4)), fill("g", box(0, 10, 1, 1, 11, 2)), fill("h", box(3, 4, 22, 4, 5, 23)),
		), "23,0:0-3 9,2:0-5 20,2:0-1 0,4:0-23 3,4:0-2 3,4:3-7 3,4:8-22 0,10:0-1"},
		// what is left out props nothing, and nothing is propped below it
		{of(one, fill("b", box(5, 6, 0, 6, 7, 9))).without("b"), "5,6:0-9"},
		{of(one, fill("b", box(5, 6, 0, 6, 7, 8))).without("a"), ""},
		{of(fill("a", box(5, 6, 0, 6, 7, 8)), empty("p", box(5, 6, 3, 6, 7, 5))).without("p"), ""},
		{of(one, again("r", "a", 2, 2, 0, 1)).without("r"), "5,6:0-9"},
		{of(one, again("r", "a", 2, 2, 0, 1)), "5,6:0-9 7,6:0-10 9,6:0-11"},
	} {
		checkPropsTold(t, c.v, c.told)
	}
}

// nearEnds are numbers of cells at both ends of space and between.
var nearEnds = []int{0, 1, 11, 22, 23}

// Above each choice of the five cells that could hold it up, at each place.
func TestWhatHoldsACellUp(t *testing.T) {
	for _, x := range nearEnds {
		for _, y := range nearEnds {
			for _, z := range []int{1, 2, 23} {
				checkHeldUp(t, x, y, z)
			}
		}
	}
}

func checkHeldUp(t *testing.T, x, y, z int) {
	t.Helper()
	for chosen := range 1 << len(underOne) {
		list, held := []impl.Feature{fill("a", boxMoved(unit, x, y, z))}, false
		for i, way := range underOne {
			b := boxMoved(unit, x+way[0], y+way[1], z-1)
			b.Z0 = 0 // down to the ground, so that they hang nowhere
			if chosen>>i&1 == 1 && boxInSpace(b) {
				list = append(list, fill(fmt.Sprint("b", i), b))
				held = true
			}
		}
		var want []impl.Prop
		if !held {
			want = []impl.Prop{{X: x, Y: y, Z0: 0, Z1: z}}
		}
		if got, code := impl.Props(list, nil); code != impl.OK || !slices.Equal(got, want) {
			t.Error("Props", list, got, code, "not", want)
		}
	}
}

// Of all cells nearby just the five hold it up: not those beside or above it,
// nor those aslant below, nor those two below.
func TestWhatElseDoesNotHoldACellUp(t *testing.T) {
	for _, at := range [][3]int{{5, 5, 5}, {0, 0, 3}, {23, 0, 3}, {0, 23, 22}, {23, 23, 22}, {0, 9, 2}, {9, 23, 2}} {
		for i := range 5 * 5 * 5 {
			dx, dy, dz := i%5-2, i/5%5-2, i/25-2
			near := boxMoved(unit, at[0]+dx, at[1]+dy, at[2]+dz)
			if !boxInSpace(near) || near == boxMoved(unit, at[0], at[1], at[2]) {
				continue
			}
			v := of(fill("a", boxMoved(unit, at[0], at[1], at[2])), fill("b", near))
			props, code := impl.Props(v.list, v.off)
			hangs := slices.ContainsFunc(props, func(p impl.Prop) bool { return p.X == at[0] && p.Y == at[1] && p.Z1 == at[2] })
			held := dz == -1 && dx*dx+dy*dy <= 1
			if code != impl.OK || hangs == held {
				t.Error("Props", v, props, code)
			}
			checkPrinting(t, v)
		}
	}
}

// plates fill every second layer, from 1 to 23: all their cells hang.
func plates() version {
	return of(
		fill("a", box(0, 0, 1, 24, 24, 2)), again("r", "a", 8, 0, 0, 2),
		fill("b", box(0, 0, 19, 24, 24, 20)), again("s", "b", 2, 0, 0, 2),
	)
}

// Answers may be longer than what may be handed in.
func TestManyProps(t *testing.T) {
	v := plates()
	props, code := impl.Props(v.list, v.off)
	if code != impl.OK || len(props) != 12*24*24 {
		t.Fatal("Props", len(props), code)
	}
	for i, p := range props {
		z := 2 * (i % 12)
		if want := (impl.Prop{X: i / 12 % 24, Y: i / 12 / 24, Z0: z, Z1: z + 1}); p != want {
			t.Fatal("Props", i, p, "not", want)
		}
	}
	checkPrinting(t, v)
	roof := of(fill("a", box(0, 0, 23, 24, 24, 24)))
	props, code = impl.Props(roof.list, roof.off)
	if code != impl.OK || len(props) != 24*24 || props[0] != (impl.Prop{X: 0, Y: 0, Z0: 0, Z1: 23}) || props[25] != (impl.Prop{X: 1, Y: 1, Z0: 0, Z1: 23}) {
		t.Fatal("Props", short(props), code)
	}
	checkPrinting(t, roof)
}
