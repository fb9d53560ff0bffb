package tests

import (
	"fmt"
	"regexp"
	"slices"
	"strings"
	"testing"

	"loop.example/g00056/impl"
)

// dots are cells by x, y, z: whether each is filled.
type dots [impl.Grid][impl.Grid][impl.Grid]bool

// at: what lies outside of space is not there.
func (d *dots) at(x, y, z int) bool {
	for _, n := range []int{x, y, z} {
		if n < 0 || n >= impl.Grid {
			return false
		}
	}
	return d[x][y][z]
}

func (d *dots) row(y, z int) string {
	signs := slices.Repeat([]byte{'.'}, impl.Grid)
	for x := range signs {
		if d[x][y][z] {
			signs[x] = '#'
		}
	}
	return string(signs)
}

func (d *dots) with(e *dots) *dots {
	both := *d
	for x := range both {
		for y := range both[x] {
			for z := range both[x][y] {
				both[x][y][z] = d[x][y][z] || e[x][y][z]
			}
		}
	}
	return &both
}

func (d *dots) count() int {
	filled := 0
	for x := range d {
		for y := range d[x] {
			for _, there := range d[x][y] {
				if there {
					filled++
				}
			}
		}
	}
	return filled
}

// dotsOf goes by what the features did, cell by cell.
func dotsOf(deeds []deed) *dots {
	var d dots
	for x := range d {
		for y := range d[x] {
			for z := range d[x][y] {
				d[x][y][z] = grainOf(deeds, x, y, z).filled
			}
		}
	}
	return &d
}

// pile makes a block of each run of signs # in a picture, from a corner on: a
// text a layer, the lowest first; / goes on to the next row.
func pile(x, y, z int, pictures ...string) []impl.Feature {
	var list []impl.Feature
	for up, picture := range pictures {
		for back, row := range strings.Split(picture, "/") {
			for _, ends := range signRuns.FindAllStringIndex(row, -1) {
				b := box(x+ends[0], y+back, z+up, x+ends[1], y+back+1, z+up+1)
				list = append(list, fill(fmt.Sprint("c", len(list)), b))
			}
		}
	}
	return list
}

var signRuns = regexp.MustCompile("#+")

func exactLayers(d *dots) []impl.Layer {
	var layers []impl.Layer
	for z := range impl.Grid {
		told := impl.Layer{Z: z}
		for y := range impl.Grid {
			row := d.row(y, z)
			told.Cells += strings.Count(row, "#")
			for _, ends := range signRuns.FindAllStringIndex(row, -1) {
				told.Runs = append(told.Runs, impl.Run{Y: y, X0: ends[0], X1: ends[1]})
			}
		}
		if told.Cells > 0 {
			layers = append(layers, told)
		}
	}
	return layers
}

func sameLayers(a, b []impl.Layer) bool {
	return slices.EqualFunc(a, b, func(one, other impl.Layer) bool {
		return one.Z == other.Z && one.Cells == other.Cells && slices.Equal(one.Runs, other.Runs)
	})
}

// layersTold reads layers as "4=3 1:0-2 2:5-6", parted by |: at Z 4 three cells,
// in the row 1 the cells 0 and 1, in the row 2 the cell 5.
func layersTold(t *testing.T, told string) []impl.Layer {
	t.Helper()
	var layers []impl.Layer
	for text := range strings.SplitSeq(told, "|") {
		words := strings.Fields(text)
		if len(words) == 0 {
			continue
		}
		var l impl.Layer
		scan(t, words[0], "%d=%d", &l.Z, &l.Cells)
		for _, word := range words[1:] {
			var r impl.Run
			scan(t, word, "%d:%d-%d", &r.Y, &r.X0, &r.X1)
			l.Runs = append(l.Runs, r)
		}
		layers = append(layers, l)
	}
	return layers
}

func scan(t *testing.T, word, form string, numbers ...any) {
	t.Helper()
	if _, err := fmt.Sscanf(word, form, numbers...); err != nil {
		t.Fatal(word, "is not told as", form)
	}
}

func checkLayersTold(t *testing.T, v version, told string) {
	t.Helper()
	got, code := impl.Layers(v.list, v.off)
	if want := layersTold(t, told); code != impl.OK || !sameLayers(got, want) {
		t.Error("Layers", short(v), short(got), code, "not", short(want))
	}
	checkPrinting(t, v)
}

// checkLayers holds what is told against the cells, one by one.
func checkLayers(t *testing.T, v version, d *dots) {
	t.Helper()
	layers, code := impl.Layers(v.list, v.off)
	if want := exactLayers(d); code != impl.OK || !sameLayers(layers, want) {
		t.Fatal("Layers", v, layers, code, "not", want)
	}
	var told [impl.Grid][impl.Grid][impl.Grid]int
	for _, l := range layers {
		for _, r := range l.Runs {
			for x := r.X0; x < r.X1; x++ {
				told[x][r.Y][l.Z]++
			}
			if d.at(r.X0-1, r.Y, l.Z) || d.at(r.X1, r.Y, l.Z) {
				t.Fatal("Layers", v, "at", l.Z, "a run that goes on:", r)
			}
		}
	}
	for x := range told {
		for y := range told[x] {
			for z, times := range told[x][y] {
				if times > 1 || (times == 1) != d[x][y][z] {
					t.Fatal("Layers", v, "tells the cell", x, y, z, "so often:", times)
				}
			}
		}
	}
}

// checkLayersBySections: the layers, the sections and the volume are of one part.
func checkLayersBySections(t *testing.T, list []impl.Feature, off []string, sections [][]string, volume int) {
	t.Helper()
	layers, code := impl.Layers(list, off)
	if code != impl.OK {
		t.Fatal("Layers", list, off, code)
	}
	filled, drawn := 0, [impl.Grid][]string{}
	for z := range drawn {
		drawn[z] = slices.Repeat([]string{strings.Repeat(".", impl.Grid)}, impl.Grid)
	}
	for _, l := range layers {
		cells := 0
		for _, r := range l.Runs {
			row := drawn[l.Z][r.Y]
			drawn[l.Z][r.Y] = row[:r.X0] + strings.Repeat("#", r.X1-r.X0) + row[r.X1:]
			cells += r.X1 - r.X0
		}
		if cells != l.Cells || cells == 0 {
			t.Fatal("Layers", list, off, "at", l.Z, l.Cells, "but the runs have", cells)
		}
		filled += cells
	}
	for z, rows := range sections {
		if !slices.Equal(drawn[z], rows) {
			t.Fatal("Layers", list, off, "at", z, drawn[z], "not", rows)
		}
	}
	if filled != volume {
		t.Fatal("Layers", list, off, filled, "not", volume)
	}
}

func TestLayersOfNoCell(t *testing.T) {
	a, b := fill("a", box(0, 0, 0, 3, 3, 3)), fill("b", box(20, 20, 20, 24, 24, 24))
	for _, v := range []version{
		of(), {list: []impl.Feature{}, off: []string{}}, of(empty("p", unit)), of(empty("p", box(0, 0, 0, 24, 24, 24))), of(a, empty("p", a.Box)), of(a, b, empty("p", box(0, 0, 0, 24, 24, 24))),
		of(a).without("a"), of(a, b).without("b", "a"), of(a, stand("a", impl.SdTop, fill("c", unit)), again("r", "a", 2, 3, 0, 0)).without("a"),
	} {
		checkLayersTold(t, v, "")
		if props, code := impl.Props(v.list, v.off); len(props) != 0 || code != impl.OK {
			t.Error("Props", v, props, code)
		}
		if passes, far, code := impl.Print(v.list, v.off); len(passes) != 0 || far != 0 || code != impl.OK {
			t.Error("Print", v, passes, far, code)
		}
	}
}

func TestLayersTold(t *testing.T) {
	a := fill("a", box(1, 2, 3, 4, 4, 5))
	for _, c := range []struct {
		v    version
		told string
	}{
		{of(fill("a", unit)), "0=1 0:0-1"},
		{of(fill("a", box(23, 23, 23, 24, 24, 24))), "23=1 23:23-24"},
		{of(fill("a", box(23, 0, 0, 24, 1, 1))), "0=1 0:23-24"},
		{of(fill("a", box(0, 23, 0, 1, 24, 1))), "0=1 23:0-1"},
		{of(fill("a", box(0, 0, 23, 1, 1, 24))), "23=1 0:0-1"},
		{of(a), "3=6 2:1-4 3:1-4 | 4=6 2:1-4 3:1-4"},
		{of(fill("a", box(0, 7, 9, 24, 8, 10))), "9=24 7:0-24"},
		{of(fill("a", box(0, 7, 9, 24, 8, 10)), empty("p", box(0, 0, 0, 1, 24, 24))), "9=23 7:1-24"},
		{of(fill("a", box(0, 7, 9, 24, 8, 10)), empty("p", box(23, 7, 9, 24, 8, 10))), "9=23 7:0-23"},
		{of(fill("a", box(0, 7, 9, 24, 8, 10)), empty("p", box(11, 7, 9, 12, 8, 10))), "9=23 7:0-11 7:12-24"},
		{of(fill("a", box(0, 7, 9, 24, 8, 10)), empty("p", box(1, 7, 9, 23, 8, 10))), "9=2 7:0-1 7:23-24"},
		// side by side, and over one another, what two features fill is one run
		{of(a, fill("b", box(4, 2, 3, 6, 3, 4))), "3=8 2:1-6 3:1-4 | 4=6 2:1-4 3:1-4"},
		{of(a, fill("b", box(0, 3, 4, 3, 4, 5))), "3=6 2:1-4 3:1-4 | 4=7 2:1-4 3:0-4"},
		{of(a, fill("b", box(5, 2, 3, 6, 3, 4))), "3=7 2:1-4 2:5-6 3:1-4 | 4=6 2:1-4 3:1-4"},
		// several in a row; rows that are empty between
		{version{list: pile(2, 3, 0, "#.##.###/.../#..#....#")}, "0=9 3:2-3 3:4-6 3:7-10 5:2-3 5:5-6 5:10-11"},
		{version{list: pile(0, 0, 0, "#.#.#.#.#.#.#.#.#.#.#.#.")}, "0=12 0:0-1 0:2-3 0:4-5 0:6-7 0:8-9 0:10-11 0:12-13 0:14-15 0:16-17 0:18-19 0:20-21 0:22-23"},
		{version{list: pile(0, 22, 0, ".#.#.#.#.#.#.#.#.#.#.#.#/#")}, "0=13 22:1-2 22:3-4 22:5-6 22:7-8 22:9-10 22:11-12 22:13-14 22:15-16 22:17-18 22:19-20 22:21-22 22:23-24 23:0-1"},
		// rows do not go on from one to the next
		{version{list: pile(20, 4, 6, "..##")}, "6=2 4:22-24"},
		{of(fill("a", box(22, 4, 6, 24, 5, 7)), fill("b", box(0, 5, 6, 2, 6, 7))), "6=4 4:22-24 5:0-2"},
		// layers that are empty between, below and above
		{version{list: pile(3, 4, 5, "#", "", "", "##", ".", "#")}, "5=1 4:3-4 | 8=2 4:3-5 | 10=1 4:3-4"},
		{of(fill("a", box(0, 0, 23, 1, 1, 24)), fill("b", unit)), "0=1 0:0-1 | 23=1 0:0-1"},
		{of(fill("a", box(0, 0, 0, 2, 1, 24)), empty("p", box(0, 0, 1, 24, 24, 22))), "0=2 0:0-2 | 22=2 0:0-2 | 23=2 0:0-2"},
		// rows and pockets
		{of(fill("a", unit), again("r", "a", 3, 2, 1, 1)), "0=1 0:0-1 | 1=1 1:2-3 | 2=1 2:4-5 | 3=1 3:6-7"},
		{of(a, empty("p", box(2, 0, 4, 3, 24, 5))), "3=6 2:1-4 3:1-4 | 4=4 2:1-2 2:3-4 3:1-2 3:3-4"},
		{of(a, stand("a", impl.SdTop, fill("b", box(1, 1, 0, 2, 2, 1)))), "3=6 2:1-4 3:1-4 | 4=6 2:1-4 3:1-4 | 5=1 3:2-3"},
		// what is left out
		{of(a, fill("b", unit)).without("a"), "0=1 0:0-1"},
		{of(a, empty("p", box(2, 0, 4, 3, 24, 5))).without("p", "p"), "3=6 2:1-4 3:1-4 | 4=6 2:1-4 3:1-4"},
		{of(fill("z", unit), a, stand("a", impl.SdTop, fill("b", unit)), again("r", "a", 1, 9, 9, 9)).without("a"), "0=1 0:0-1"},
	} {
		checkLayersTold(t, c.v, c.told)
	}
}

func TestLayersOfAllCells(t *testing.T) {
	full := of(fill("a", box(0, 0, 0, 24, 24, 24)))
	layers, code := impl.Layers(full.list, full.off)
	if code != impl.OK || len(layers) != 24 {
		t.Fatal("Layers", short(layers), code)
	}
	for z, l := range layers {
		if l.Z != z || l.Cells != 576 || len(l.Runs) != 24 {
			t.Error("Layers", z, l)
		}
		for y, r := range l.Runs {
			if r != (impl.Run{Y: y, X0: 0, X1: 24}) {
				t.Error("Layers", z, y, r)
			}
		}
	}
	checkPrinting(t, full)
}

// Each row of five cells, at both ends of space and between.
func TestLayersOfEachRow(t *testing.T) {
	for pattern := range 1 << 5 {
		row := strings.NewReplacer("0", ".", "1", "#").Replace(fmt.Sprintf("%05b", pattern))
		for _, x := range []int{0, 7, 19} {
			list := pile(x, x, x, row)
			want := layersTold(t, "")
			if ends := signRuns.FindAllStringIndex(row, -1); ends != nil {
				want = []impl.Layer{{Z: x, Cells: strings.Count(row, "#")}}
				for _, e := range ends {
					want[0].Runs = append(want[0].Runs, impl.Run{Y: x, X0: x + e[0], X1: x + e[1]})
				}
			}
			if got, code := impl.Layers(list, nil); code != impl.OK || !sameLayers(got, want) {
				t.Error("Layers", row, "at", x, got, code, "not", want)
			}
			checkPrinting(t, version{list: list})
		}
	}
}
