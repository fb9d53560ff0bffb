package tests

import (
	"fmt"
	"math/rand"
	"slices"
	"strings"
	"testing"

	"loop.example/g00056/impl"
)

// scriptOf tells features as the console's lines.
func scriptOf(list []impl.Feature) []string {
	var lines []string
	for _, f := range list {
		b := f.Box
		line := fmt.Sprint(map[int]string{impl.FtBlock: "block ", impl.FtPocket: "pocket "}[f.Kind], f.Name, " ", b.X0, b.Y0, b.Z0, b.X1, b.Y1, b.Z1)
		if f.On != "" {
			line += fmt.Sprint(" ", f.On, " ", f.Side)
		}
		if f.Kind == impl.FtRow {
			line = fmt.Sprint("row ", f.Name, " ", f.Of, " ", f.Count, f.DX, f.DY, f.DZ)
		}
		lines = append(lines, line)
	}
	return lines
}

// checkLaidDown: a part that is laid down in a file and read is that part, feature
// by feature; and built it is that part, cell by cell.
func checkLaidDown(t *testing.T, list []impl.Feature) ([]impl.Feature, *dots) {
	t.Helper()
	file, code := impl.FileBytes(list)
	if code != impl.OK {
		t.Fatal("FileBytes", list, code)
	}
	back, code, _ := impl.ReadFile(file)
	if code != impl.OK || !slices.Equal(back, list) {
		t.Fatal("ReadFile", list, back, code)
	}
	deeds, code, _ := exactDeeds(list, nil)
	if code != impl.OK {
		t.Fatal("no part", list, code)
	}
	d := dotsOf(deeds)
	part, code, _ := impl.Rebuild(list, nil)
	again, codeAgain, _ := impl.Rebuild(back, nil)
	if code != impl.OK || codeAgain != impl.OK || !samePart(part, again) || again.Volume != d.count() {
		t.Fatal("Rebuild", list, part, code, again, codeAgain)
	}
	for z := range impl.Grid {
		rows, code := impl.Section(back, nil, z)
		for y, row := range rows {
			if code != impl.OK || row != d.row(y, z) {
				t.Fatal("Section", list, z, rows, code)
			}
		}
	}
	return back, d
}

// checkCut: a tool's moves over a full stock leave just what the tool can leave.
func checkCut(t *testing.T, part impl.Field, r, step int) ([]impl.Move, bool) {
	t.Helper()
	stock := level(part.W, part.H, slices.Max(part.Tops))
	moves, code := impl.Zigzag(stock, part, r, step)
	if code == impl.ErrFull {
		return nil, false
	}
	if code != impl.OK {
		t.Fatal("Zigzag", part, r, step, code)
	}
	checkLeavesFloor(t, part, r, moves)
	return moves, true
}

func checkLeavesFloor(t *testing.T, part impl.Field, r int, moves []impl.Move) impl.Milled {
	t.Helper()
	stock := level(part.W, part.H, slices.Max(part.Tops))
	milled := impl.Mill(stock, part, r, moves)
	if milled.Code != impl.OK || !sameField(milled.Field, exactFloor(part, r)) {
		t.Fatal("Mill", part, r, short(moves), milled, "not", exactFloor(part, r))
	}
	if rest, code := impl.Rest(milled.Field, part); code != impl.OK || r == 0 && rest != 0 {
		t.Fatal("Rest", milled.Field, part, r, rest, code)
	}
	return milled
}

// checkPostedWhole: written for both machines, in as many programs as it takes,
// and run, the moves are these moves again.
func checkPostedWhole(t *testing.T, moves []impl.Move, tool, feed int) [2][]impl.Move {
	t.Helper()
	var whole [2][]impl.Move
	for piece := range slices.Chunk(moves, impl.MaxPosted) {
		var texts [2]string
		for i, machine := range bothMachines {
			text, code := impl.Post(machine, piece, tool, feed)
			back, ranCode, line := impl.Posted(text)
			if code != impl.OK || ranCode != impl.OK || !slices.Equal(back, piece) {
				t.Fatal("Post and Posted", machine, short(piece), code, short(back), ranCode, line)
			}
			texts[i] = text
			whole[i] = append(whole[i], back...)
		}
		if alike, code := impl.Twins(texts[0], texts[1]); !alike || code != impl.OK {
			t.Fatal("Twins", short(texts), alike, code)
		}
	}
	return whole
}

// checkDrivenOn: the controller takes the moves to their end, and goes on from a
// pause as if there had been none.
func checkDrivenOn(t *testing.T, draw *rand.Rand, moves []impl.Move) {
	t.Helper()
	gain := 200 + draw.Intn(300)
	most := gain + draw.Intn(500)
	ticks, code := impl.Control(moves, most, gain)
	if code != impl.OK {
		t.Fatal("Control", short(moves), most, gain, code)
	}
	checkRide(t, moves, most, gain, ticks)
	last := moves[len(moves)-1]
	if end := ticks[len(ticks)-1]; end.X != 20*last.X || end.Y != 20*last.Y || end.Z != 20*last.Z {
		t.Fatal("Control", short(moves), "ends at", end)
	}
	for _, n := range []int{draw.Intn(len(ticks) + 1), draw.Intn(2) * len(ticks)} {
		hold, code := impl.Pause(moves, most, gain, n)
		rest, restCode := impl.Resume(moves, most, gain, hold)
		if code != impl.OK || restCode != impl.OK || !slices.Equal(slices.Concat(ticks[:n], rest), ticks) {
			t.Fatal("Pause and Resume", short(moves), most, gain, n, hold, code, restCode)
		}
	}
}

// movesAtUnits are the whole places of a drive that goes no faster than a unit a
// tick: moves again, if they are not too many. The drive begins at 0, 0, 0, but
// the tool above that: what leads up there is left out.
func movesAtUnits(t *testing.T, moves []impl.Move) ([]impl.Move, bool) {
	t.Helper()
	ticks, code := impl.Control(moves, 20, 20)
	if code == impl.ErrFull {
		return nil, false
	}
	if code != impl.OK {
		t.Fatal("Control", short(moves), code)
	}
	var driven []impl.Move
	for _, tick := range ticks {
		if tick.X%20 == 0 && tick.Y%20 == 0 && tick.Z%20 == 0 {
			driven = append(driven, to(tick.X/20, tick.Y/20, tick.Z/20))
		}
	}
	driven = driven[impl.Grid-1:]
	return driven, len(driven) <= impl.MaxMoves
}

// checkLayersAreCells: the layers have just the cells, and what is printed is
// these and the props.
func checkLayersAreCells(t *testing.T, list []impl.Feature, d *dots) {
	t.Helper()
	layers, code := impl.Layers(list, nil)
	if code != impl.OK {
		t.Fatal("Layers", list, code)
	}
	var found dots
	cells := 0
	for _, layer := range layers {
		cells += layer.Cells
		for _, run := range layer.Runs {
			for x := run.X0; x < run.X1; x++ {
				found[x][run.Y][layer.Z] = true
			}
		}
	}
	if found != *d || cells != d.count() {
		t.Fatal("Layers", list, layers)
	}
	checkPrintingOf(t, version{list: list}, d)
}

// checkTheConsole: what the console says of the part is what was made of it. It
// takes features as they are done, since none can name a later one there.
func checkTheConsole(t *testing.T, list []impl.Feature, d *dots, part impl.Field, r, step int, moves []impl.Move) {
	t.Helper()
	milled := impl.Mill(level(part.W, part.H, slices.Max(part.Tops)), part, r, moves)
	rest, _ := impl.Rest(milled.Field, part)
	built, _, _ := impl.Rebuild(list, nil)
	lines := scriptOf(inOrder(list, built.Order))
	want := strings.Repeat("ok\n", len(lines)) + fmt.Sprintf("part %d %d\nmill %d %d %d %d\n", d.count(), len(built.Faces), len(moves), milled.Cut, milled.Air, rest)
	lines = append(lines, "build", fmt.Sprint("mill ", r, " ", step))
	if got, code := checkConsole(t, strings.Join(lines, "\n")); got != want || code != impl.OK {
		t.Fatalf("Console(%q): %q %d, not %q", lines, got, code, want)
	}
}

func inOrder(list []impl.Feature, names []string) []impl.Feature {
	var ordered []impl.Feature
	for _, name := range names {
		f, _ := featureNamed(list, name)
		ordered = append(ordered, f)
	}
	return ordered
}

// checkMaking goes the whole way of a part; it answers with how many tools it
// could be cut, and how many drives could be cut again.
func checkMaking(t *testing.T, draw *rand.Rand, list []impl.Feature) (cut, drivenAgain int) {
	t.Helper()
	back, d := checkLaidDown(t, list)
	checkLayersAreCells(t, back, d)
	part := columnsOf(back, nil)
	for r := range 4 {
		step := 1 + draw.Intn(24)
		moves, fits := checkCut(t, part, r, step)
		if !fits {
			continue
		}
		cut++
		posted := checkPostedWhole(t, moves, r, 1+draw.Intn(900))
		checkLeavesFloor(t, part, r, posted[0])
		checkLeavesFloor(t, part, r, posted[1])
		checkDrivenOn(t, draw, posted[draw.Intn(2)])
		if driven, few := movesAtUnits(t, moves); few {
			drivenAgain++
			checkLeavesFloor(t, part, r, driven)
		}
		checkTheConsole(t, back, d, part, r, step, moves)
	}
	return cut, drivenAgain
}

// A part known by hand: a bar of three columns, two high, with a slot down to the
// middle of it that stands on the bar's top.
func TestMakingKnownByHand(t *testing.T) {
	list := []impl.Feature{
		fill("base", box(0, 0, 0, 3, 1, 2)),
		stand("base", impl.SdTop, empty("slot", box(1, 0, -1, 2, 1, 0))),
	}
	back, d := checkLaidDown(t, list)
	if d.count() != 5 || d.row(0, 0)[:4] != "###." || d.row(0, 1)[:4] != "#.#." {
		t.Error("the cells", d.count(), d.row(0, 0), d.row(0, 1))
	}
	part := columnsOf(back, nil)
	if !sameField(part, field("212")) {
		t.Error("the field", part)
	}
	moves, _ := checkCut(t, part, 0, 23)
	if !slices.Equal(moves, []impl.Move{fast(0, 0, 24), fast(1, 0, 24), fast(1, 0, 24), to(1, 0, 1), fast(1, 0, 24)}) {
		t.Error("the moves", moves)
	}
	if up, _ := checkCut(t, part, 1, 23); !slices.Equal(up, []impl.Move{fast(0, 0, 24)}) { // the tool is wider than the slot
		t.Error("the moves of a wider tool", up)
	}
	for i, want := range []string{"T0 F100\nZ24\nX1\nX1\nG1 Z1\nG0 Z24\nM30\n", "N10 T0 F100 G91\nN20 G0 X0 Y0 Z24\nN30 G0 X1 Y0 Z0\nN40 G0 X0 Y0 Z0\nN50 G1 X0 Y0 Z-23\nN60 G0 X0 Y0 Z23\nN70 M30\n"} {
		if text, code := impl.Post(bothMachines[i], moves, 0, 100); text != want || code != impl.OK {
			t.Error("the program", text, code)
		}
	}
	checkPostedWhole(t, moves, 0, 100)
	ticks := []impl.Tick{{Z: 480, Speed: 480}, {X: 20, Z: 480, Speed: 20}, {X: 20, Z: 240, Speed: 240}, {X: 20, Z: 20, Speed: 220}, {X: 20, Z: 480, Speed: 460}}
	if got, code := impl.Control(moves, 480, 480); !slices.Equal(got, ticks) || code != impl.OK {
		t.Error("the ticks", got, code)
	}
	hold, code := impl.Pause(moves, 480, 480, 3)
	if hold != (impl.Hold{Move: 3, Done: 240, Speed: 240}) || code != impl.OK {
		t.Error("the pause", hold, code)
	}
	if rest, code := impl.Resume(moves, 480, 480, hold); !slices.Equal(rest, ticks[3:]) || code != impl.OK {
		t.Error("behind the pause", rest, code)
	}
	layers, code := impl.Layers(back, nil)
	want := []impl.Layer{{Z: 0, Cells: 3, Runs: []impl.Run{{Y: 0, X0: 0, X1: 3}}}, {Z: 1, Cells: 2, Runs: []impl.Run{{Y: 0, X0: 0, X1: 1}, {Y: 0, X0: 2, X1: 3}}}}
	if !sameLayers(layers, want) || code != impl.OK {
		t.Error("the layers", layers, code)
	}
	checkTalk(t, "block base 0 0 0 3 1 2 -> ok", "pocket slot 1 0 -1 2 1 0 base 6 -> ok", "build -> part 5 9", "layers -> layer 0 3 1|layer 1 2 2", "print -> print 3 5", "mill 0 23 -> mill 5 1 22 0", "mill 1 23 -> mill 1 0 0 1")
	checkMaking(t, rand.New(rand.NewSource(2400)), list)
}

func TestMakingOfDrawnParts(t *testing.T) {
	draw := rand.New(rand.NewSource(2401))
	made, cut, driven := 0, 0, 0
	for made < 80 {
		d := drawing{corner: oneOf(draw, 0, 0, 0, 3, 12), reach: 2 + draw.Intn(7), count: 1 + draw.Intn(8)}
		list := d.features(draw)
		draw.Shuffle(len(list), func(i, j int) { list[i], list[j] = list[j], list[i] })
		if _, code, _ := impl.Rebuild(list, nil); code != impl.OK {
			continue
		}
		made++
		cuts, drives := checkMaking(t, draw, list)
		cut, driven = cut+cuts, driven+drives
	}
	if cut < 200 || driven < 100 {
		t.Error("too few were cut, or driven again:", cut, driven)
	}
}

// Parts at the ends of what there may be: nothing, one cell, all cells, thirty
// features, a comb, stairs, a tower that hangs.
func TestMakingOfEdges(t *testing.T) {
	draw := rand.New(rand.NewSource(2402))
	all := fill("all", box(0, 0, 0, 24, 24, 24))
	var stairs []impl.Feature
	for i := range 24 {
		stairs = append(stairs, fill(fmt.Sprint("s", i), box(i, 0, 0, i+1, 1+i%5, i+1)))
	}
	for _, list := range [][]impl.Feature{
		nil, {fill("a", unit)}, {fill("a", box(23, 23, 23, 24, 24, 24))}, {all}, {all, empty("none", box(0, 0, 0, 24, 24, 24))}, {all, empty("pit", box(8, 8, 0, 16, 16, 24))}, {all, empty("slot", box(3, 0, 12, 4, 24, 24))},
		manyFeatures(30), stairs,
		{fill("bar", box(0, 0, 0, 17, 2, 3)), empty("gap", box(1, 0, 1, 2, 2, 3)), again("gaps", "gap", 7, 2, 0, 0)},
		{fill("foot", box(4, 4, 0, 5, 5, 9)), stand("foot", impl.SdTop, fill("roof", box(-3, -3, 0, 4, 4, 1)))},
	} {
		checkMaking(t, draw, list)
	}
}
