package tests

import (
	"fmt"
	"math/rand"
	"slices"
	"strings"
	"testing"

	"loop.example/g00056/impl"
)

// checkPrinting holds all that is told of printing against the cells that the
// features leave, or against the code; it answers the code, the cells, and what
// was told.
func checkPrinting(t *testing.T, v version) (int, *dots, []impl.Prop) {
	t.Helper()
	deeds, code, _ := exactDeeds(v.list, v.off)
	if code != impl.OK {
		checkNotPrinted(t, v.list, v.off, code)
		return code, nil, nil
	}
	d := dotsOf(deeds)
	return impl.OK, d, checkPrintingOf(t, v, d)
}

func checkPrintingOf(t *testing.T, v version, d *dots) []impl.Prop {
	t.Helper()
	checkLayers(t, v, d)
	props := checkProps(t, v, d)
	passes := checkPasses(t, v, d.with(d.propped()))
	printed := 0
	for _, p := range passes {
		printed += max(p.From, p.To) - min(p.From, p.To) + 1
	}
	for _, p := range props {
		printed -= p.Z1 - p.Z0
	}
	if printed != d.count() {
		t.Fatal("Print", v, "prints beside the props", printed, "not", d.count())
	}
	return props
}

// checkNotPrinted: every call that prints a part answers that code, and nothing else.
func checkNotPrinted(t *testing.T, list []impl.Feature, off []string, code int) {
	t.Helper()
	if layers, got := impl.Layers(list, off); len(layers) != 0 || got != code {
		t.Error("Layers", short(list), "without", short(off), short(layers), got, "not", code)
	}
	if props, got := impl.Props(list, off); len(props) != 0 || got != code {
		t.Error("Props", short(list), "without", short(off), short(props), got, "not", code)
	}
	if passes, far, got := impl.Print(list, off); len(passes) != 0 || far != 0 || got != code {
		t.Error("Print", short(list), "without", short(off), short(passes), far, got, "not", code)
	}
}

// What is refused of features is tried here by name; checkNotBuilt asks for it
// wherever a part is not built.
func TestWhatIsNotPrinted(t *testing.T) {
	codes := []int{impl.ErrLong, impl.ErrMany, impl.ErrBad, impl.ErrTwice, impl.ErrName, impl.ErrLoop, impl.ErrNone, impl.ErrState, impl.ErrRange}
	all := notBuilt()
	if len(all) != len(codes) {
		t.Error("there are", len(all), "codes")
	}
	for _, code := range codes {
		if len(all[code]) == 0 {
			t.Error("none of the code", code)
		}
		for _, v := range all[code] {
			checkNotPrinted(t, v.list, v.off, code)
		}
	}
	// names that are none, behind ones that are
	tower := of(fill("a", unit), stand("a", impl.SdTop, fill("b", unit)))
	for _, off := range [][]string{{"no"}, {""}, {"A"}, {"a "}, {"a", "b", "c"}, {"b", "\xff", "a"}, {strings.Repeat("a", impl.MaxText+1)}} {
		checkNotPrinted(t, tower.list, off, impl.ErrName)
		checkNotPrinted(t, nil, off, impl.ErrName)
	}
	// as many names as there may be, and one more
	most := slices.Repeat([]string{"b"}, impl.MaxList)
	checkPassesTold(t, tower.without(most...), "0,0:0-0", 0)
	checkNotPrinted(t, tower.list, append(most, "b"), impl.ErrLong)
	checkNotPrinted(t, nil, append(most, "b"), impl.ErrLong)
	// what can not be done, but is left out, is in nobody's way
	wrong := of(fill("a", unit), fill("y", box(-1, 0, 0, 1, 1, 1)), stand("y", impl.SdTop, fill("z", unit)))
	checkNotPrinted(t, wrong.list, nil, impl.ErrRange)
	checkNotPrinted(t, wrong.list, []string{"z"}, impl.ErrRange)
	checkPassesTold(t, wrong.without("y"), "0,0:0-0", 0)
}

func TestPrintsByHowManyFeatures(t *testing.T) {
	checkPassesTold(t, version{list: manyFeatures(30)}, "0,0:0-0", 0)
	checkNotPrinted(t, manyFeatures(31), nil, impl.ErrMany)
	checkNotPrinted(t, manyFeatures(impl.MaxList), nil, impl.ErrMany)
	checkNotPrinted(t, manyFeatures(impl.MaxList+1), nil, impl.ErrLong)
	// thirty cells, each of its own feature
	var list []impl.Feature
	for i := range 30 {
		list = append(list, fill(fmt.Sprint("f", i), boxMoved(unit, i*7%24, i*5%24, i*11%24)))
	}
	checkPrinting(t, version{list: list})
}

// Every choice of cells in a small box, at places where the numbers are even,
// odd, and at the ends of space.
func TestPrintsOfAllSmallParts(t *testing.T) {
	for _, c := range []struct{ x, y, z, wide, deep, high int }{
		{0, 0, 0, 2, 2, 3}, {22, 22, 22, 2, 2, 2}, {5, 9, 3, 3, 1, 3}, {8, 21, 0, 1, 3, 3}, {11, 4, 6, 1, 1, 7},
	} {
		cells := c.wide * c.deep * c.high
		for pattern := range 1 << cells {
			var d dots
			var list []impl.Feature
			for i := range cells {
				if pattern>>i&1 == 0 {
					continue
				}
				x, y, z := c.x+i%c.wide, c.y+i/c.wide%c.deep, c.z+i/c.wide/c.deep
				d[x][y][z] = true
				list = append(list, fill(fmt.Sprint("f", i), boxMoved(unit, x, y, z)))
			}
			v := version{list: list}
			layers, code := impl.Layers(v.list, nil)
			if code != impl.OK || !sameLayers(layers, exactLayers(&d)) {
				t.Fatal("Layers", v, layers, code)
			}
			props, code := impl.Props(v.list, nil)
			if code != impl.OK || !slices.Equal(props, exactProps(&d)) {
				t.Fatal("Props", v, props, code)
			}
			passes, far, code := impl.Print(v.list, nil)
			if want := exactPasses(d.with(d.propped())); code != impl.OK || !slices.Equal(passes, want) || far != exactFar(want) {
				t.Fatal("Print", v, passes, far, code, "not", want)
			}
		}
	}
}

// scattered draws small blocks, and some pockets, in a box from a corner on.
func scattered(draw *rand.Rand, corner [3]int, wide, deep, high, count int) []impl.Feature {
	var list []impl.Feature
	for i := range count {
		x, y, z := corner[0]+draw.Intn(wide), corner[1]+draw.Intn(deep), corner[2]+draw.Intn(high)
		b := box(x, y, z, min(24, x+1+draw.Intn(3)), min(24, y+1+draw.Intn(2)), min(24, z+1+draw.Intn(2)))
		f := fill(fmt.Sprint("s", i), b)
		if draw.Intn(4) == 0 {
			f.Kind = impl.FtPocket
		}
		list = append(list, f)
	}
	return list
}

func drawnPart(draw *rand.Rand) version {
	var v version
	switch draw.Intn(4) {
	case 0:
		v.list = drawing{corner: []int{0, 0, 8, 18}[draw.Intn(4)], reach: 2 + draw.Intn(5), count: 1 + draw.Intn(7)}.features(draw)
	case 1:
		v.list = drawing{corner: 0, reach: 24, count: 2 + draw.Intn(12)}.features(draw)
	case 2:
		corner := [3]int{draw.Intn(18), draw.Intn(18), draw.Intn(18)}
		v.list = scattered(draw, corner, 2+draw.Intn(5), 2+draw.Intn(5), 2+draw.Intn(5), 5+draw.Intn(26))
	default:
		v.list = scattered(draw, [3]int{}, 24, 24, 24, 5+draw.Intn(26))
	}
	if draw.Intn(3) == 0 {
		v.off = drawnOff(draw, v.list)
	}
	return v
}

// countPrinted notes which edges of the document a part has.
func countPrinted(seen map[string]int, d *dots, props []impl.Prop) {
	for x := range d {
		for y := range d[x] {
			for z := range d[x][y] {
				switch {
				case !d[x][y][z]:
				case x == 0 || x == 23:
					seen["at an end of X"]++
				case y == 0 || y == 23:
					seen["at an end of Y"]++
				case z == 23:
					seen["at the top"]++
				case z == 0:
					seen["on the ground"]++
				}
			}
		}
	}
	for i, p := range props {
		switch {
		case p.Z0 == 0:
			seen["props from 0"]++
		default:
			seen["props from a filled cell"]++
		}
		if i > 0 && props[i-1].X == p.X && props[i-1].Y == p.Y {
			seen["props one above the other"]++
		}
		if d.at(p.X-1, p.Y, p.Z0) || d.at(p.X+1, p.Y, p.Z0) {
			seen["props beside filled cells"]++
		}
	}
	if layers := exactLayers(d); len(layers) > 0 && layers[len(layers)-1].Z-layers[0].Z >= len(layers) {
		seen["empty layers between"]++
	}
}

func TestDrawnPrints(t *testing.T) {
	draw := rand.New(rand.NewSource(16))
	codes, seen := map[int]int{}, map[string]int{}
	for range 700 {
		v := drawnPart(draw)
		code, d, props := checkPrinting(t, v)
		codes[code]++
		if code != impl.OK {
			continue
		}
		countPrinted(seen, d, props)
		checkPropsFilled(t, v, d, props)
	}
	for _, code := range []int{impl.OK, impl.ErrNone, impl.ErrState, impl.ErrRange} {
		if codes[code] < 5 {
			t.Error("too few were drawn:", codes)
		}
	}
	for _, what := range []string{
		"at an end of X", "at an end of Y", "at the top", "on the ground", "props from 0", "props from a filled cell",
		"props one above the other", "props beside filled cells", "empty layers between",
	} {
		if seen[what] < 20 {
			t.Error("too few were drawn:", what, seen)
		}
	}
}

// checkPropsFilled: where its props are blocks of the part nothing hangs any
// more, and it is printed as it was.
func checkPropsFilled(t *testing.T, v version, d *dots, props []impl.Prop) {
	t.Helper()
	if len(v.list)+len(props) > impl.MaxFeatures {
		return
	}
	filled := version{list: slices.Clone(v.list), off: v.off}
	for i, p := range props {
		filled.list = append(filled.list, fill(fmt.Sprint("prop", i), box(p.X, p.Y, p.Z0, p.X+1, p.Y+1, p.Z1)))
	}
	if got, code := impl.Props(filled.list, filled.off); len(got) != 0 || code != impl.OK {
		t.Fatal("Props", filled, got, code)
	}
	passes, far, _ := impl.Print(v.list, v.off)
	again, againFar, code := impl.Print(filled.list, filled.off)
	if code != impl.OK || !slices.Equal(passes, again) || far != againFar {
		t.Fatal("Print", filled, again, againFar, code, "not", passes, far)
	}
	layers, code := impl.Layers(filled.list, filled.off)
	if code != impl.OK || !sameLayers(layers, exactLayers(d.with(d.propped()))) {
		t.Fatal("Layers", filled, layers, code)
	}
}

func printed(v version) string {
	layers, layersCode := impl.Layers(v.list, v.off)
	props, propsCode := impl.Props(v.list, v.off)
	passes, far, code := impl.Print(v.list, v.off)
	return fmt.Sprint(layers, layersCode, props, propsCode, passes, far, code)
}

func TestPrintsOfWhatIsLeftOut(t *testing.T) {
	draw := rand.New(rand.NewSource(17))
	whole := 0
	for range 400 {
		v := version{list: drawing{corner: 2, reach: 3 + draw.Intn(4), count: 2 + draw.Intn(9)}.features(draw)}
		v.off = drawnOff(draw, v.list)
		rest := version{list: without(v.list, v.off)}
		if got, want := printed(v), printed(rest); got != want {
			t.Fatal("printed", v, got, "not", want)
		}
		if layers, code := impl.Layers(v.list, v.off); code == impl.OK && len(layers) > 0 && len(rest.list) < len(v.list) {
			whole++
		}
	}
	if whole < 30 {
		t.Error("too few were drawn:", whole)
	}
}

// Blocks fill the same cells in any order, and so does one that is there twice.
func TestPrintsOfBlocksInAnyOrder(t *testing.T) {
	draw := rand.New(rand.NewSource(18))
	for range 100 {
		var list []impl.Feature
		for i := range 2 + draw.Intn(12) {
			list = append(list, fill(fmt.Sprint("b", i), drawing{}.box(draw, 0, []int{6, 24}[draw.Intn(2)])))
		}
		want := printed(version{list: list})
		for range 3 {
			draw.Shuffle(len(list), func(i, j int) { list[i], list[j] = list[j], list[i] })
			more := append(slices.Clone(list), fill("more", list[0].Box))
			if printed(version{list: list}) != want || printed(version{list: more}) != want {
				t.Fatal("printed", list, printed(version{list: list}), printed(version{list: more}), "not", want)
			}
		}
	}
}

// A part that is moved, in Y by an even number, is printed on the same way: only
// the way to its first pass is another one.
func TestPrintsOfMovedParts(t *testing.T) {
	draw := rand.New(rand.NewSource(19))
	for range 150 {
		list := scattered(draw, [3]int{0, 0, 0}, 5, 5, 6, 3+draw.Intn(20))
		dx, dy := draw.Intn(16), 2*draw.Intn(8)
		var moved []impl.Feature
		for _, f := range list {
			f.Box = boxMoved(f.Box, dx, dy, 0)
			moved = append(moved, f)
		}
		passes, far, _ := impl.Print(list, nil)
		for i := range passes {
			passes[i].Y, passes[i].From, passes[i].To = passes[i].Y+dy, passes[i].From+dx, passes[i].To+dx
		}
		if len(passes) > 0 {
			far += dx + dy
		}
		if got, gotFar, code := impl.Print(moved, nil); code != impl.OK || !slices.Equal(got, passes) || gotFar != far {
			t.Fatal("Print", moved, got, gotFar, code, "not", passes, far)
		}
		props, _ := impl.Props(list, nil)
		for i := range props {
			props[i].X, props[i].Y = props[i].X+dx, props[i].Y+dy
		}
		if got, code := impl.Props(moved, nil); code != impl.OK || !slices.Equal(got, props) {
			t.Fatal("Props", moved, got, code, "not", props)
		}
	}
}

// With X and Y in each other's place the same cells hang.
func TestPropsOfSwappedParts(t *testing.T) {
	draw := rand.New(rand.NewSource(20))
	for range 150 {
		list := scattered(draw, [3]int{18, 0, 0}, 6, 9, 9, 3+draw.Intn(20))
		props, _ := impl.Props(list, nil)
		for i, p := range props {
			props[i].X, props[i].Y = p.Y, p.X
		}
		slices.SortFunc(props, func(a, b impl.Prop) int {
			return slices.Compare([]int{a.Y, a.X, a.Z0}, []int{b.Y, b.X, b.Z0})
		})
		if got, code := impl.Props(swapped(list), nil); code != impl.OK || !slices.Equal(got, props) {
			t.Fatal("Props", swapped(list), got, code, "not", props)
		}
	}
}

// spoilAll writes over a list, and behind its end.
func spoilAll[T any](list []T, with T) {
	for i := range list[:cap(list)] {
		list[:cap(list)][i] = with
	}
}

func TestPrintingAnswersAreNewMemory(t *testing.T) {
	behind := fill("behind", box(77, 77, 77, 77, 77, 77))
	for _, right := range [][]impl.Feature{
		nil, features("a"), features("a", "a"), features("b on a", "a", "c on b"), pile(0, 1, 0, ".###", "..#", "", "######", "#.#.#"), {fill("a", box(3, 3, 3, 9, 9, 9)), empty("b", box(4, 0, 4, 8, 24, 8))},
	} {
		for _, out := range [][]string{nil, {"a"}, {"c1", "c1"}} {
			array := append(slices.Clone(right), behind, behind, behind)
			offArray := append(slices.Clone(out), "behind", "behind", "behind")
			list, off := array[:len(right)], offArray[:len(out)]
			all := func() string {
				layers, layersCode := impl.Layers(list, off)
				props, propsCode := impl.Props(list, off)
				passes, far, code := impl.Print(list, off)
				told := fmt.Sprint(layers, layersCode, props, propsCode, passes, far, code)
				checkOwnRuns(t, layers)
				spoilAll(layers, impl.Layer{Z: 77})
				spoilAll(props, impl.Prop{X: 77})
				spoilAll(passes, impl.Pass{Z: 77})
				return told
			}
			first := all()
			if again := all(); again != first {
				t.Error("answers share memory", right, out, first, again)
			}
			if !slices.Equal(array, append(slices.Clone(right), behind, behind, behind)) || !slices.Equal(offArray, append(slices.Clone(out), "behind", "behind", "behind")) {
				t.Error("an argument was changed", right, out, array, offArray)
			}
		}
	}
}

// checkOwnRuns: what is written into one layer's runs, or behind them, is in no other's.
func checkOwnRuns(t *testing.T, layers []impl.Layer) {
	t.Helper()
	for i := range layers {
		var others []string
		for _, l := range layers[i+1:] {
			others = append(others, fmt.Sprint(l))
		}
		spoilAll(layers[i].Runs, impl.Run{Y: 77})
		for j, l := range layers[i+1:] {
			if fmt.Sprint(l) != others[j] {
				t.Error("layers share their runs", i, l, "not", others[j])
			}
		}
	}
}

// printingCalls: calls of every function of the layer, right, at an edge and wrong.
func printingCalls() []func() string {
	var calls []func() string
	for _, v := range []version{
		of(), of(impl.Feature{}), of(features("a")...), of(features("b on r", "r of a", "c on b", "a")...), of(features("a on b", "b on a")...), of(features("a", "a")...),
		{list: manyFeatures(30)}, {list: manyFeatures(31)}, {list: manyFeatures(impl.MaxList + 1)}, {list: pile(0, 1, 0, ".###", "..#", "", "######", "#.#.#")}, plates(),
		of(fill("a", box(23, 23, 23, 24, 24, 24)), fill("r", unit)), of(fill("a", box(-24, 0, 0, 24, 1, 1))), of(withNumber(fill("a", unit), countField, least)), of(again("a", "a", greatest, least, greatest, 0)),
	} {
		for _, off := range [][]string{nil, {"a"}, {"r", "r"}, {"no"}, slices.Repeat([]string{"a"}, impl.MaxList+1)} {
			calls = append(calls, func() string { return printed(v.without(off...)) })
		}
	}
	return calls
}
