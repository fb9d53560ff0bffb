package tests

import (
	"fmt"
	"math/rand"
	"slices"
	"strings"
	"testing"

	"loop.example/g00056/impl"
)

// A deed is a feature as it was done: its name, its boxes where they came to
// lie, and whether it filled them.
type deed struct {
	name  string
	boxes []impl.Box
	fills bool
}

// A grain is a cell as it is found by going through the deeds again, of it
// alone: whether it is filled, and the deed that changed it last, or -1.
type grain struct {
	filled bool
	by     int
}

func holds(b impl.Box, x, y, z int) bool {
	return b.X0 <= x && x < b.X1 && b.Y0 <= y && y < b.Y1 && b.Z0 <= z && z < b.Z1
}

func grainOf(deeds []deed, x, y, z int) grain {
	g := grain{by: -1}
	for number, d := range deeds {
		for _, b := range d.boxes {
			if holds(b, x, y, z) && g.filled != d.fills {
				g = grain{filled: d.fills, by: number}
			}
		}
	}
	return g
}

type grains [impl.Grid][impl.Grid][impl.Grid]grain

func grainsOf(deeds []deed) *grains {
	var all grains
	for x := range all {
		for y := range all[x] {
			for z := range all[x][y] {
				all[x][y][z] = grainOf(deeds, x, y, z)
			}
		}
	}
	return &all
}

func (g *grains) at(p [3]int) grain {
	for _, n := range p {
		if n < 0 || n >= impl.Grid {
			return grain{by: -1}
		}
	}
	return g[p[0]][p[1]][p[2]]
}

type faceKey struct {
	name string
	side int
}

// planeSquares are one plane's squares of a face, by their two numbers in it.
type planeSquares map[[2]int]bool

func (s planeSquares) drop(at [2]int) {
	if !s[at] {
		return
	}
	delete(s, at)
	for _, near := range [][2]int{{at[0] - 1, at[1]}, {at[0] + 1, at[1]}, {at[0], at[1] - 1}, {at[0], at[1] + 1}} {
		s.drop(near)
	}
}

// facesByPlanes goes through the planes of each direction, and through the
// squares of each plane.
func facesByPlanes(deeds []deed) []impl.Face {
	all := grainsOf(deeds)
	faces := map[faceKey]impl.Face{}
	for axis := range 3 {
		for plane := range impl.Grid + 1 {
			inPlane := map[faceKey]planeSquares{}
			for u := range impl.Grid {
				for v := range impl.Grid {
					var below, above [3]int
					above[axis], above[(axis+1)%3], above[(axis+2)%3] = plane, u, v
					below = above
					below[axis]--
					key, there := squareOf(deeds, all.at(below), all.at(above), axis)
					if !there {
						continue
					}
					if inPlane[key] == nil {
						inPlane[key] = planeSquares{}
					}
					inPlane[key][[2]int{u, v}] = true
					faces[key] = withSquare(faces[key], key, above, axis)
				}
			}
			for key, squares := range inPlane {
				for len(squares) > 0 {
					for at := range squares {
						squares.drop(at)
						break
					}
					face := faces[key]
					face.Pieces++
					faces[key] = face
				}
			}
		}
	}
	var told []impl.Face
	for _, face := range faces {
		told = append(told, face)
	}
	slices.SortFunc(told, func(a, b impl.Face) int {
		if a.Feature != b.Feature {
			return strings.Compare(a.Feature, b.Feature)
		}
		return a.Side - b.Side
	})
	return told
}

// squareOf tells whose the square between two cells is, and of which side.
func squareOf(deeds []deed, below, above grain, axis int) (faceKey, bool) {
	lower, upper := 2*axis+1, 2*axis+2
	if below.filled == above.filled {
		return faceKey{}, false
	}
	if below.filled && below.by > above.by {
		return faceKey{deeds[below.by].name, upper}, true
	}
	if above.filled && above.by > below.by {
		return faceKey{deeds[above.by].name, lower}, true
	}
	if below.filled { // the empty one above is by a pocket: the filled one stands below it
		return faceKey{deeds[above.by].name, lower}, true
	}
	return faceKey{deeds[below.by].name, upper}, true
}

func withSquare(face impl.Face, key faceKey, low [3]int, axis int) impl.Face {
	high := [3]int{low[0] + 1, low[1] + 1, low[2] + 1}
	high[axis]--
	b := box(low[0], low[1], low[2], high[0], high[1], high[2])
	if face.Area > 0 {
		o := face.Box
		b = box(min(b.X0, o.X0), min(b.Y0, o.Y0), min(b.Z0, o.Z0), max(b.X1, o.X1), max(b.Y1, o.Y1), max(b.Z1, o.Z1))
	}
	return impl.Face{Feature: key.name, Side: key.side, Area: face.Area + 1, Pieces: face.Pieces, Box: b}
}

func boxMoved(b impl.Box, x, y, z int) impl.Box {
	return box(b.X0+x, b.Y0+y, b.Z0+z, b.X1+x, b.Y1+y, b.Z1+z)
}

func boxInSpace(b impl.Box) bool {
	return 0 <= b.X0 && b.X0 < b.X1 && b.X1 <= 24 && 0 <= b.Y0 && b.Y0 < b.Y1 && b.Y1 <= 24 && 0 <= b.Z0 && b.Z0 < b.Z1 && b.Z1 <= 24
}

func featureNamed(list []impl.Feature, name string) (impl.Feature, bool) {
	for _, f := range list {
		if f.Name == name {
			return f, true
		}
	}
	return impl.Feature{}, false
}

// exactOrder does what the document says of right features, word by word.
func exactOrder(list []impl.Feature) ([]string, int, []string) {
	for i, f := range list {
		if _, ahead := featureNamed(list[:i], f.Name); ahead {
			return nil, impl.ErrTwice, []string{f.Name}
		}
	}
	for _, f := range list {
		if _, there := featureNamed(list, f.On); f.On != "" && !there {
			return nil, impl.ErrName, []string{f.Name, f.On}
		}
		if of, there := featureNamed(list, f.Of); f.Of != "" && (!there || of.Kind == impl.FtRow || of.On != "") {
			return nil, impl.ErrName, []string{f.Name, f.Of}
		}
	}
	var order []string
	for {
		at := slices.IndexFunc(list, func(f impl.Feature) bool {
			return !slices.Contains(order, f.Name) && (f.On == "" || slices.Contains(order, f.On)) && (f.Of == "" || slices.Contains(order, f.Of))
		})
		if at < 0 {
			break
		}
		order = append(order, list[at].Name)
	}
	if len(order) == len(list) {
		return order, impl.OK, nil
	}
	for length := 1; length <= len(list); length++ {
		for _, f := range list {
			if row := rowBack(list, f, length); row != nil {
				return nil, impl.ErrLoop, row
			}
		}
	}
	return nil, -1, nil
}

// rowBack goes from feature to feature so often, and tells the row if it comes
// back to the first one.
func rowBack(list []impl.Feature, first impl.Feature, length int) []string {
	var row []string
	at := first
	for range length {
		row = append(row, at.Name)
		next, there := featureNamed(list, at.On+at.Of) // one of them is empty
		if !there {
			return nil
		}
		at = next
	}
	if at.Name != first.Name {
		return nil
	}
	return row
}

// exactDeeds does right features in order.
func exactDeeds(list []impl.Feature, off []string) ([]deed, int, []string) {
	order, code, about := exactOrder(list)
	if code != impl.OK {
		return nil, code, about
	}
	for _, name := range off {
		if _, there := featureNamed(list, name); !there {
			return nil, impl.ErrName, []string{name}
		}
	}
	var deeds []deed
	left := slices.Clone(off)
	for _, name := range order {
		f, _ := featureNamed(list, name)
		if slices.Contains(left, name) || f.On != "" && slices.Contains(left, f.On) || f.Of != "" && slices.Contains(left, f.Of) {
			left = append(left, name)
			continue
		}
		d, code, about := exactDeed(list, f, deeds)
		if code != impl.OK {
			return nil, code, about
		}
		deeds = append(deeds, d)
	}
	return deeds, impl.OK, nil
}

func exactDeed(list []impl.Feature, f impl.Feature, deeds []deed) (deed, int, []string) {
	d := deed{name: f.Name, fills: f.Kind == impl.FtBlock, boxes: []impl.Box{f.Box}}
	if f.Kind == impl.FtRow {
		of, _ := featureNamed(list, f.Of)
		d.fills, d.boxes = of.Kind == impl.FtBlock, nil
		for n := 1; n <= f.Count; n++ {
			d.boxes = append(d.boxes, boxMoved(of.Box, n*f.DX, n*f.DY, n*f.DZ))
		}
	}
	if f.On != "" {
		faces := facesByPlanes(deeds)
		at := slices.IndexFunc(faces, func(face impl.Face) bool { return face.Feature == f.On && face.Side == f.Side })
		if at < 0 {
			return d, impl.ErrNone, []string{f.Name, f.On}
		}
		if faces[at].Pieces > 1 {
			return d, impl.ErrState, []string{f.Name, f.On}
		}
		d.boxes[0] = boxMoved(f.Box, faces[at].Box.X0, faces[at].Box.Y0, faces[at].Box.Z0)
	}
	for _, b := range d.boxes {
		if !boxInSpace(b) {
			return d, impl.ErrRange, []string{f.Name}
		}
	}
	return d, impl.OK, nil
}

// exactPart is the part that Rebuild ought to tell, of right features.
func exactPart(deeds []deed) impl.Part {
	part := impl.Part{Faces: facesByPlanes(deeds)}
	for _, d := range deeds {
		part.Order = append(part.Order, d.name)
	}
	all := grainsOf(deeds)
	for x := range all {
		for y := range all[x] {
			for _, g := range all[x][y] {
				if g.filled {
					part.Volume++
				}
			}
		}
	}
	return part
}

func samePart(a, b impl.Part) bool {
	return slices.Equal(a.Order, b.Order) && a.Volume == b.Volume && slices.Equal(a.Faces, b.Faces)
}

// checkByOracle holds all that is told of features against the cells, and
// against each other; it answers the code.
func checkByOracle(t *testing.T, list []impl.Feature, off []string) int {
	t.Helper()
	order, orderCode, orderAbout := exactOrder(list)
	if got, code, about := impl.FeatureOrder(list); !slices.Equal(got, order) || code != orderCode || !slices.Equal(about, orderAbout) {
		t.Fatal("FeatureOrder", list, got, code, about, "not", order, orderCode, orderAbout)
	}
	deeds, code, about := exactDeeds(list, off)
	if code != impl.OK {
		if part, got, names := impl.Rebuild(list, off); got != code || !slices.Equal(names, about) || !samePart(part, impl.Part{}) {
			t.Fatal("Rebuild", list, off, got, names, "not", code, about)
		}
		if rows, got := impl.Section(list, off, 0); len(rows) != 0 || got != code {
			t.Fatal("Section", list, off, rows, got)
		}
		checkNotPrinted(t, list, off, code)
		return code
	}
	part, got, names := impl.Rebuild(list, off)
	if want := exactPart(deeds); got != impl.OK || len(names) != 0 || !samePart(part, want) {
		t.Fatal("Rebuild", list, off, got, names, part, "not", want)
	}
	checkSections(t, list, off, part, deeds)
	if off == nil {
		checkFaces(t, list, off, part)
	}
	return impl.OK
}

// checkSections: the sections have the cells, and as many squares between
// their signs as the faces have; the layers have what the sections have.
func checkSections(t *testing.T, list []impl.Feature, off []string, part impl.Part, deeds []deed) {
	t.Helper()
	var signs [impl.Grid + 2][impl.Grid + 2][impl.Grid + 2]int
	filled, squares, area := 0, 0, 0
	var sections [][]string
	for z := range impl.Grid {
		rows, code := impl.Section(list, off, z)
		if code != impl.OK || len(rows) != impl.Grid {
			t.Fatal("Section", list, off, z, rows, code)
		}
		sections = append(sections, rows)
		for y, row := range rows {
			if len(row) != impl.Grid {
				t.Fatal("Section", list, off, z, rows)
			}
			for x := range row {
				if grainOf(deeds, x, y, z).filled != (row[x] == '#') || row[x] != '#' && row[x] != '.' {
					t.Fatal("Section", list, off, z, rows, "at", x, y)
				}
				if row[x] == '#' {
					signs[x+1][y+1][z+1] = 1
					filled++
				}
			}
		}
	}
	for x := range impl.Grid + 1 {
		for y := range impl.Grid + 1 {
			for z := range impl.Grid + 1 {
				here := signs[x][y][z]
				squares += (here ^ signs[x+1][y][z]) + (here ^ signs[x][y+1][z]) + (here ^ signs[x][y][z+1])
			}
		}
	}
	for _, face := range part.Faces {
		area += face.Area
	}
	if filled != part.Volume || squares != area {
		t.Fatal("sections", list, off, filled, squares, "not", part.Volume, area)
	}
	checkLayersBySections(t, list, off, sections, part.Volume)
}

func checkFaces(t *testing.T, list []impl.Feature, off []string, part impl.Part) {
	t.Helper()
	told := 0
	for _, f := range list {
		for side := 0; side <= 7; side++ {
			face, code := impl.FaceOf(list, off, f.Name, side)
			if code == impl.OK {
				told++
			}
			if code == impl.OK && !slices.Contains(part.Faces, face) || code != impl.OK && (code != impl.ErrNone || face != impl.Face{}) {
				t.Fatal("FaceOf", list, off, f.Name, side, face, code)
			}
			if code == impl.OK && (face.Feature != f.Name || face.Side != side) {
				t.Fatal("FaceOf another", list, off, f.Name, side, face)
			}
		}
	}
	if told != len(part.Faces) {
		t.Fatal("FaceOf", list, off, "tells", told, "of", part.Faces)
	}
}

// A drawing says how features are drawn: within a cube of so many cells from a
// corner on, so many, some wrongly.
type drawing struct {
	corner, reach, count int
	wrong                bool
}

func (d drawing) box(draw *rand.Rand, low, high int) impl.Box {
	var ends [3][2]int
	for i := range ends {
		a, b := low+draw.Intn(high-low+1), low+draw.Intn(high-low+1)
		for a == b {
			b = low + draw.Intn(high-low+1)
		}
		ends[i] = [2]int{min(a, b), max(a, b)}
	}
	return box(ends[0][0], ends[1][0], ends[2][0], ends[0][1], ends[1][1], ends[2][1])
}

func (d drawing) features(draw *rand.Rand) []impl.Feature {
	var list []impl.Feature
	for i := range d.count {
		f := fill(fmt.Sprint(string(rune('a'+draw.Intn(6))), i), d.box(draw, d.corner, d.corner+d.reach))
		if i > 0 && draw.Intn(3) == 0 {
			f.Kind = impl.FtPocket
		}
		on := d.named(draw, list, f.Name)
		switch {
		case i > 0 && draw.Intn(4) == 0:
			f.Box = d.box(draw, -2, 3)
			f = stand(on, 1+draw.Intn(6), f)
		case i > 0 && draw.Intn(4) == 0:
			f = again(f.Name, on, 1+draw.Intn(4), draw.Intn(5)-2, draw.Intn(5)-2, draw.Intn(5)-2)
			if f.DX == 0 && f.DY == 0 && f.DZ == 0 {
				f.DX = 2
			}
			if of, there := featureNamed(list, on); !d.wrong && (!there || of.Kind == impl.FtRow || of.On != "") {
				f.Of = list[0].Name
			}
		}
		list = append(list, f)
	}
	return list
}

// named draws a name that stands ahead; where wrong ones are drawn too, rarely
// one that may be the feature's own, or one that stands nowhere.
func (d drawing) named(draw *rand.Rand, list []impl.Feature, own string) string {
	if d.wrong && draw.Intn(20) == 0 {
		return []string{own, "nowhere"}[draw.Intn(2)]
	}
	if len(list) == 0 {
		return own
	}
	return list[draw.Intn(len(list))].Name
}

func drawnOff(draw *rand.Rand, list []impl.Feature) []string {
	var off []string
	for _, f := range list {
		if draw.Intn(8) == 0 {
			off = append(off, f.Name)
		}
	}
	return off
}

func TestDrawnParts(t *testing.T) {
	draw := rand.New(rand.NewSource(5))
	seen := map[int]int{}
	for range 300 {
		d := drawing{corner: []int{0, 0, 8, 18}[draw.Intn(4)], reach: 2 + draw.Intn(5), count: 1 + draw.Intn(7)}
		list := d.features(draw)
		code := checkByOracle(t, list, nil)
		seen[code]++
		off := drawnOff(draw, list)
		checkByOracle(t, list, off)
		draw.Shuffle(len(list), func(i, j int) { list[i], list[j] = list[j], list[i] })
		checkByOracle(t, list, off)
	}
	for _, code := range []int{impl.OK, impl.ErrNone, impl.ErrState, impl.ErrRange} {
		if seen[code] < 5 {
			t.Error("too few were drawn:", seen)
		}
	}
}

func TestDrawnFeatureOrders(t *testing.T) {
	draw := rand.New(rand.NewSource(6))
	seen := map[int]int{}
	for range 4000 {
		d := drawing{corner: 0, reach: 3, count: 1 + draw.Intn(12), wrong: draw.Intn(2) == 0}
		list := d.features(draw)
		for range draw.Intn(6) { // circles, most of all
			f := &list[draw.Intn(len(list))]
			if f.Kind != impl.FtRow {
				*f = stand(list[draw.Intn(len(list))].Name, impl.SdTop, *f)
			}
		}
		if draw.Intn(8) == 0 {
			list = append(list, list[draw.Intn(len(list))])
		}
		draw.Shuffle(len(list), func(i, j int) { list[i], list[j] = list[j], list[i] })
		want, wantCode, wantAbout := exactOrder(list)
		got, code, about := impl.FeatureOrder(list)
		if !slices.Equal(got, want) || code != wantCode || !slices.Equal(about, wantAbout) {
			t.Fatal("FeatureOrder", list, got, code, about, "not", want, wantCode, wantAbout)
		}
		seen[code]++
	}
	for _, code := range []int{impl.OK, impl.ErrTwice, impl.ErrName, impl.ErrLoop} {
		if seen[code] < 100 {
			t.Error("too few were drawn:", seen)
		}
	}
}

// without is the list with what is left out, and what hangs on it, taken away.
func without(list []impl.Feature, off []string) []impl.Feature {
	gone := slices.Clone(off)
	for range list {
		for _, f := range list {
			if f.On != "" && slices.Contains(gone, f.On) || f.Of != "" && slices.Contains(gone, f.Of) {
				gone = append(gone, f.Name)
			}
		}
	}
	return slices.DeleteFunc(slices.Clone(list), func(f impl.Feature) bool { return slices.Contains(gone, f.Name) })
}

func TestWhatIsLeftOutLeavesOutJustWhatHangsOnIt(t *testing.T) {
	draw := rand.New(rand.NewSource(7))
	whole := 0
	for range 1500 {
		list := drawing{corner: 2, reach: 3 + draw.Intn(4), count: 2 + draw.Intn(9)}.features(draw)
		draw.Shuffle(len(list), func(i, j int) { list[i], list[j] = list[j], list[i] })
		off := drawnOff(draw, list)
		rest := without(list, off)
		part, code, about := impl.Rebuild(list, off)
		want, wantCode, wantAbout := impl.Rebuild(rest, nil)
		if code != wantCode || !slices.Equal(about, wantAbout) || !samePart(part, want) {
			t.Fatal("Rebuild", list, off, part, code, about, "not", want, wantCode, wantAbout)
		}
		if code == impl.OK && len(rest) < len(list) {
			whole++
		}
		rows, code := impl.Section(list, off, 4)
		if wantRows, wantCode := impl.Section(rest, nil, 4); code != wantCode || !slices.Equal(rows, wantRows) {
			t.Fatal("Section", list, off, rows, code, "not", wantRows, wantCode)
		}
	}
	if whole < 100 {
		t.Error("too few parts were drawn:", whole)
	}
}

// swapped has X and Y of all features in each other's place.
func swapped(list []impl.Feature) []impl.Feature {
	var other []impl.Feature
	for _, f := range list {
		f.Box = boxSwapped(f.Box)
		f.Side = sideSwapped(f.Side)
		f.DX, f.DY = f.DY, f.DX
		other = append(other, f)
	}
	return other
}

func boxSwapped(b impl.Box) impl.Box { return box(b.Y0, b.X0, b.Z0, b.Y1, b.X1, b.Z1) }

func sideSwapped(side int) int {
	return []int{0, impl.SdFront, impl.SdBack, impl.SdLeft, impl.SdRight, impl.SdBottom, impl.SdTop}[side]
}

func TestPartsSwappedMovedAndRenamed(t *testing.T) {
	draw := rand.New(rand.NewSource(8))
	whole := 0
	for range 600 {
		list := drawing{corner: 9, reach: 2 + draw.Intn(3), count: 1 + draw.Intn(8)}.features(draw)
		part, code, about := impl.Rebuild(list, nil)
		other, otherCode, otherAbout := impl.Rebuild(swapped(list), nil)
		if code != otherCode || !slices.Equal(about, otherAbout) || part.Volume != other.Volume || len(part.Faces) != len(other.Faces) {
			t.Fatal("swapped", list, code, about, otherCode, otherAbout)
		}
		for _, face := range part.Faces {
			face.Side, face.Box = sideSwapped(face.Side), boxSwapped(face.Box)
			if !slices.Contains(other.Faces, face) {
				t.Fatal("swapped", list, face, other.Faces)
			}
		}
		if code == impl.OK {
			whole++
			checkMoved(t, list, part)
		}
		checkRenamed(t, list)
	}
	if whole < 100 {
		t.Error("too few parts were drawn:", whole)
	}
}

// checkMoved: what does not stand on another is moved, all else with it.
func checkMoved(t *testing.T, list []impl.Feature, part impl.Part) {
	t.Helper()
	var moved []impl.Feature
	for _, f := range list {
		if f.Kind != impl.FtRow && f.On == "" {
			f.Box = boxMoved(f.Box, 1, -1, 2)
		}
		moved = append(moved, f)
	}
	other, code, _ := impl.Rebuild(moved, nil)
	if code == impl.ErrRange {
		return // it reached so far that there was no room
	}
	var faces []impl.Face
	for _, face := range part.Faces {
		face.Box = boxMoved(face.Box, 1, -1, 2)
		faces = append(faces, face)
	}
	if code != impl.OK || other.Volume != part.Volume || !slices.Equal(other.Faces, faces) {
		t.Fatal("moved", list, code, other, "not", faces)
	}
}

// checkRenamed: names are told as they are, and stand for nothing else.
func checkRenamed(t *testing.T, list []impl.Feature) {
	t.Helper()
	turn := func(name string) string {
		if name == "" {
			return ""
		}
		return string('z'-name[0]+'A') + name
	}
	var renamed []impl.Feature
	for _, f := range list {
		f.Name, f.On, f.Of = turn(f.Name), turn(f.On), turn(f.Of)
		renamed = append(renamed, f)
	}
	part, code, _ := impl.Rebuild(list, nil)
	other, otherCode, _ := impl.Rebuild(renamed, nil)
	if code != otherCode || part.Volume != other.Volume || len(part.Faces) != len(other.Faces) {
		t.Fatal("renamed", list, code, otherCode)
	}
	for _, face := range part.Faces {
		face.Feature = turn(face.Feature)
		if !slices.Contains(other.Faces, face) {
			t.Fatal("renamed", list, face, other.Faces)
		}
	}
}
