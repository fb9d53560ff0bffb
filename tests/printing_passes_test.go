package tests

import (
	"slices"
	"strings"
	"testing"

	"loop.example/g00056/impl"
)

// exactPasses goes over all cells as the nozzle does, the empty ones too.
func exactPasses(d *dots) []impl.Pass {
	var passes []impl.Pass
	for z := range impl.Grid {
		for line := range impl.Grid {
			y := line
			if z%2 == 1 {
				y = impl.Grid - 1 - line
			}
			printing := false
			for place := range impl.Grid {
				x := place
				if y%2 == 1 {
					x = impl.Grid - 1 - place
				}
				if d[x][y][z] && !printing {
					passes = append(passes, impl.Pass{Z: z, Y: y, From: x})
				}
				if printing = d[x][y][z]; printing {
					passes[len(passes)-1].To = x
				}
			}
		}
	}
	return passes
}

// exactFar counts the steps of the nozzle between the passes, one by one.
func exactFar(passes []impl.Pass) int {
	nozzle, far := [3]int{}, 0
	for _, p := range passes {
		for axis, goal := range [3]int{p.From, p.Y, p.Z} {
			for ; nozzle[axis] < goal; nozzle[axis]++ {
				far++
			}
			for ; nozzle[axis] > goal; nozzle[axis]-- {
				far++
			}
		}
		nozzle = [3]int{p.To, p.Y, p.Z}
	}
	return far
}

// passesTold reads "1,2:5-3": at Z 1 and Y 2, from 5 to 3.
func passesTold(t *testing.T, told string) []impl.Pass {
	t.Helper()
	var passes []impl.Pass
	for _, word := range strings.Fields(told) {
		var p impl.Pass
		scan(t, word, "%d,%d:%d-%d", &p.Z, &p.Y, &p.From, &p.To)
		passes = append(passes, p)
	}
	return passes
}

func checkPassesTold(t *testing.T, v version, told string, far int) {
	t.Helper()
	got, gotFar, code := impl.Print(v.list, v.off)
	if want := passesTold(t, told); code != impl.OK || !slices.Equal(got, want) || gotFar != far {
		t.Error("Print", short(v), short(got), gotFar, code, "not", short(want), far)
	}
	checkPrinting(t, v)
}

// checkPasses: d has the part with its props.
func checkPasses(t *testing.T, v version, d *dots) []impl.Pass {
	t.Helper()
	passes, far, code := impl.Print(v.list, v.off)
	want := exactPasses(d)
	if code != impl.OK || !slices.Equal(passes, want) {
		t.Fatal("Print", v, passes, code, "not", want)
	}
	if steps := exactFar(want); far != steps {
		t.Fatal("Print", v, passes, "goes", far, "not", steps)
	}
	var printed [impl.Grid][impl.Grid][impl.Grid]int
	for _, p := range passes {
		if p.Y%2 == 0 && p.From > p.To || p.Y%2 == 1 && p.From < p.To {
			t.Fatal("Print", v, p, "goes the other way")
		}
		for x := min(p.From, p.To); x <= max(p.From, p.To); x++ {
			printed[x][p.Y][p.Z]++
		}
	}
	for x := range printed {
		for y := range printed[x] {
			for z, times := range printed[x][y] {
				if times > 1 || (times == 1) != d[x][y][z] {
					t.Fatal("Print", v, "prints the cell", x, y, z, "so often:", times)
				}
			}
		}
	}
	return passes
}

func TestPassesTold(t *testing.T) {
	for _, c := range []struct {
		v    version
		told string
		far  int
	}{
		// the way from 0, 0, 0 to the first pass
		{of(fill("a", unit)), "0,0:0-0", 0},
		{of(fill("a", box(0, 0, 0, 5, 1, 1))), "0,0:0-4", 0},
		{of(fill("a", box(3, 0, 0, 5, 1, 1))), "0,0:3-4", 3},
		{of(fill("a", box(0, 1, 0, 1, 2, 1))), "0,1:0-0", 1},
		{of(fill("a", box(3, 1, 0, 5, 2, 1))), "0,1:4-3", 5},
		{of(fill("a", box(0, 0, 0, 24, 1, 1))), "0,0:0-23", 0},
		{of(fill("a", box(0, 23, 0, 24, 24, 1))), "0,23:23-0", 46},
		{of(fill("a", box(23, 23, 0, 24, 24, 1))), "0,23:23-23", 46},
		{of(fill("a", box(23, 22, 0, 24, 23, 1))), "0,22:23-23", 45},
		// rows of even and odd y, on layers of even and odd z
		{of(fill("a", box(0, 0, 0, 2, 2, 2))), "0,0:0-1 0,1:1-0 1,1:1-0 1,0:0-1", 0 + 1 + 2 + 1},
		{of(fill("a", box(1, 1, 0, 4, 4, 2))), "0,1:3-1 0,2:1-3 0,3:3-1 1,3:3-1 1,2:1-3 1,1:3-1", 4 + 1 + 1 + 3 + 1 + 1},
		{of(fill("a", box(0, 0, 0, 3, 1, 3))), "0,0:0-2 1,0:0-2 2,0:0-2", 0 + 3 + 3},
		{of(fill("a", box(0, 1, 0, 3, 2, 3))), "0,1:2-0 1,1:2-0 2,1:2-0", 3 + 3 + 3},
		{of(fill("a", box(5, 2, 0, 6, 6, 3))), "0,2:5-5 0,3:5-5 0,4:5-5 0,5:5-5 1,5:5-5 1,4:5-5 1,3:5-5 1,2:5-5 2,2:5-5 2,3:5-5 2,4:5-5 2,5:5-5", 7 + 3 + 1 + 3 + 1 + 3},
		// rows that are empty between
		{version{list: pile(0, 0, 0, "##/./##/././##")}, "0,0:0-1 0,2:0-1 0,5:1-0", 0 + 3 + 3},
		{version{list: pile(0, 0, 0, "##/./##/././##", "##/./##/././##")}, "0,0:0-1 0,2:0-1 0,5:1-0 1,5:1-0 1,2:0-1 1,0:0-1", 0 + 3 + 3 + 2 + 3 + 3},
		// several runs of a row, rising and falling
		{version{list: pile(0, 0, 0, "#.##.###/#.##.###")}, "0,0:0-0 0,0:2-3 0,0:5-7 0,1:7-5 0,1:3-2 0,1:0-0", 0 + 2 + 2 + 1 + 2 + 2},
		{version{list: pile(2, 6, 0, "#....#/#....#", "#....#/#....#")}, "0,6:2-2 0,6:7-7 0,7:7-7 0,7:2-2 1,7:7-7 1,7:2-2 1,6:2-2 1,6:7-7", 8 + 5 + 1 + 5 + 6 + 5 + 1 + 5},
		{version{list: pile(0, 23, 0, "#......................#")}, "0,23:23-23 0,23:0-0", 46 + 23},
		// props are printed as filled cells are
		{of(fill("a", box(2, 4, 3, 3, 5, 4))), "0,4:2-2 1,4:2-2 2,4:2-2 3,4:2-2", 6 + 1 + 1 + 1},
		{of(fill("a", box(0, 0, 1, 1, 1, 2))), "0,0:0-0 1,0:0-0", 1},
		{of(fill("a", box(3, 4, 1, 5, 6, 2))), "0,4:3-4 0,5:4-3 1,5:4-3 1,4:3-4", 7 + 1 + 2 + 1},
		{version{list: pile(0, 0, 0, "#...#", "#...#", "#####")}, "0,0:0-0 0,0:2-2 0,0:4-4 1,0:0-0 1,0:2-2 1,0:4-4 2,0:0-4", 0 + 2 + 2 + 5 + 2 + 2 + 5},
		{version{list: pile(5, 6, 0, "#", "", "", "#", "", "#")}, "0,6:5-5 1,6:5-5 2,6:5-5 3,6:5-5 4,6:5-5 5,6:5-5", 11 + 5},
		// beside filled cells they are one run with them
		{version{list: pile(0, 0, 0, "##.##", "", "..#")}, "0,0:0-4 1,0:2-2 2,0:2-2", 0 + 3 + 1},
		{version{list: pile(0, 0, 0, "##...", "", "..#")}, "0,0:0-2 1,0:2-2 2,0:2-2", 0 + 1 + 1},
		{version{list: pile(0, 1, 0, "...##", "", "..#")}, "0,1:4-2 1,1:2-2 2,1:2-2", 5 + 1 + 1},
		{version{list: pile(0, 1, 0, ".###", "..#", "..#", "######")}, "0,1:5-0 1,1:5-4 1,1:2-2 1,1:0-0 2,1:5-4 2,1:2-2 2,1:0-0 3,1:5-0", 6 + 6 + 2 + 2 + 6 + 2 + 2 + 6},
		{version{list: pile(0, 0, 0, "#.#/.../#.#", "", ".../.#.")}, "0,0:0-0 0,0:2-2 0,1:1-1 0,2:0-0 0,2:2-2 1,1:1-1 2,1:1-1", 0 + 2 + 2 + 2 + 2 + 3 + 1},
		// layers of one prop between
		{of(fill("a", unit), fill("b", box(0, 0, 3, 1, 1, 4))), "0,0:0-0 1,0:0-0 2,0:0-0 3,0:0-0", 3},
		// what is left out is not printed, nor propped
		{of(fill("a", unit), fill("b", box(0, 0, 3, 1, 1, 4))).without("b"), "0,0:0-0", 0},
		{of(fill("a", box(0, 0, 0, 3, 1, 1)), empty("p", box(1, 0, 0, 2, 1, 1))).without("p"), "0,0:0-2", 0},
		{of(fill("a", box(0, 0, 0, 3, 1, 1)), empty("p", box(1, 0, 0, 2, 1, 1))), "0,0:0-0 0,0:2-2", 2},
	} {
		checkPassesTold(t, c.v, c.told, c.far)
	}
}

func TestPassesAtTheFarCorner(t *testing.T) {
	v := of(fill("a", box(23, 23, 23, 24, 24, 24)))
	passes, far, code := impl.Print(v.list, v.off)
	if code != impl.OK || len(passes) != 24 || far != 23+23+23 {
		t.Fatal("Print", passes, far, code)
	}
	for z, p := range passes {
		if p != (impl.Pass{Z: z, Y: 23, From: 23, To: 23}) {
			t.Error("Print", z, p)
		}
	}
	checkPrinting(t, v)
}

// The whole space is printed alike, filled or propped.
func TestPassesOfAllCells(t *testing.T) {
	for _, v := range []version{of(fill("a", box(0, 0, 0, 24, 24, 24))), of(fill("a", box(0, 0, 23, 24, 24, 24))), plates()} {
		passes, far, code := impl.Print(v.list, v.off)
		// in a layer 23 steps from row to row; 23 times back along a row and up
		if code != impl.OK || len(passes) != 24*24 || far != 24*23+23*24 {
			t.Fatal("Print", len(passes), far, code)
		}
		checkPrinting(t, v)
	}
}

// Answers may be longer than what may be handed in.
func TestManyPasses(t *testing.T) {
	v := of(
		fill("a", box(0, 0, 0, 24, 24, 24)), empty("p", box(1, 0, 0, 2, 24, 24)), again("r", "p", 8, 2, 0, 0),
		empty("q", box(19, 0, 0, 20, 24, 24)), again("s", "q", 2, 2, 0, 0),
	)
	passes, far, code := impl.Print(v.list, v.off)
	// in a row 11 gaps of 2; in a layer 23 steps from row to row; 23 times back from 22 to 0, or on from 0 to 22, and up
	if code != impl.OK || len(passes) != 12*24*24 || far != 24*24*22+24*23+23*23 {
		t.Fatal("Print", len(passes), far, code)
	}
	layers, code := impl.Layers(v.list, v.off)
	if code != impl.OK || len(layers) != 24 || layers[23].Cells != 288 || len(layers[23].Runs) != 288 {
		t.Fatal("Layers", short(layers), code)
	}
	checkPrinting(t, v)
}
