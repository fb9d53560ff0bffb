package tests

import (
	"fmt"
	"slices"
	"strings"
	"testing"

	"loop.example/g00056/impl"
)

const (
	same   = impl.NmSame
	moved  = impl.NmMoved
	turns  = impl.NmTurned
	splits = impl.NmSplit
	lost   = impl.NmLost
	came   = impl.NmCame
)

// traced are a feature's traces, each of a side, what became of it, and its
// area before and now.
func traced(of string, rows ...[4]int) []impl.Trace {
	var traces []impl.Trace
	for _, r := range rows {
		traces = append(traces, impl.Trace{Feature: of, Side: r[0], What: r[1], Before: r[2], Now: r[3]})
	}
	return traces
}

// tracedAlike: the same became of all six faces of a block.
func tracedAlike(of string, what int, b impl.Box) []impl.Trace {
	var traces []impl.Trace
	for _, f := range boxFaces(of, b) {
		trace := impl.Trace{Feature: of, Side: f.Side, What: what, Before: f.Area, Now: f.Area}
		if what == lost {
			trace.Now = 0
		}
		if what == came {
			trace.Before = 0
		}
		traces = append(traces, trace)
	}
	return traces
}

// A version is a list of features and what is left out of it.
type version struct {
	list []impl.Feature
	off  []string
}

func of(list ...impl.Feature) version { return version{list: list} }

func (v version) without(off ...string) version { return version{list: v.list, off: off} }

// faces are those that the cells ought to have.
func (v version) faces(t *testing.T) []impl.Face {
	t.Helper()
	deeds, code, about := exactDeeds(v.list, v.off)
	if code != impl.OK {
		t.Fatal("no part", v, code, about)
	}
	return facesByPlanes(deeds)
}

func follow(old, late version) ([]impl.Trace, int) {
	return impl.Follow(old.list, old.off, late.list, late.off)
}

func faceWith(faces []impl.Face, key faceKey) (impl.Face, bool) {
	for _, f := range faces {
		if f.Feature == key.name && f.Side == key.side {
			return f, true
		}
	}
	return impl.Face{}, false
}

// exactWhat tries the document's sentences of each number, in its order.
func exactWhat(before, now impl.Face, was, is bool) int {
	both := was && is
	alike := before.Area == now.Area && before.Pieces == now.Pieces
	for _, c := range []struct {
		what int
		fits bool
	}{
		{splits, both && now.Pieces > 1 && before.Pieces == 1},
		{same, both && alike && before.Box == now.Box},
		{moved, both && alike && before.Box != now.Box},
		{turns, both},
		{lost, was && !is},
		{came, is && !was},
	} {
		if c.fits {
			return c.what
		}
	}
	return 0
}

// exactTraces tries each feature's each side.
func exactTraces(before, now []impl.Face) []impl.Trace {
	var names []string
	for _, f := range slices.Concat(before, now) {
		names = append(names, f.Feature)
	}
	slices.Sort(names)
	var traces []impl.Trace
	for _, name := range slices.Compact(names) {
		for side := 1; side <= 6; side++ {
			b, was := faceWith(before, faceKey{name, side})
			n, is := faceWith(now, faceKey{name, side})
			if was || is {
				traces = append(traces, impl.Trace{Feature: name, Side: side, What: exactWhat(b, n, was, is), Before: b.Area, Now: n.Area})
			}
		}
	}
	return traces
}

// checkBothWays: what is told one way says what is told the other way, but for
// whether a face in other pieces is in one.
func checkBothWays(t *testing.T, there, back []impl.Trace) {
	t.Helper()
	if len(there) != len(back) {
		t.Fatal("one way", there, "the other way", back)
	}
	alike := map[int][]int{same: {same}, moved: {moved}, turns: {turns, splits}, splits: {turns}, lost: {came}, came: {lost}}
	for i, a := range there {
		b := back[i]
		if a.Feature != b.Feature || a.Side != b.Side || a.Before != b.Now || a.Now != b.Before || !slices.Contains(alike[a.What], b.What) {
			t.Fatal("one way", a, "the other way", b)
		}
	}
}

func checkFollow(t *testing.T, old, late version, want ...[]impl.Trace) {
	t.Helper()
	got, code := follow(old, late)
	if code != impl.OK || !slices.Equal(got, slices.Concat(want...)) {
		t.Errorf("Follow %v to %v: %v %d, not %v", old, late, got, code, want)
	}
	checkFollowByOracle(t, old, late)
}

// checkFollowByOracle holds both ways against the cells' faces, and each
// version against itself.
func checkFollowByOracle(t *testing.T, old, late version) []impl.Trace {
	t.Helper()
	before, now := old.faces(t), late.faces(t)
	there, code := follow(old, late)
	if want := exactTraces(before, now); code != impl.OK || !slices.Equal(there, want) {
		t.Fatalf("Follow %v to %v: %v %d, not %v", old, late, there, code, want)
	}
	back, code := follow(late, old)
	if want := exactTraces(now, before); code != impl.OK || !slices.Equal(back, want) {
		t.Fatalf("Follow %v to %v: %v %d, not %v", late, old, back, code, want)
	}
	checkBothWays(t, there, back)
	for _, v := range []version{old, late} {
		itself, code := follow(v, v)
		for _, trace := range itself {
			if trace.What != same || trace.Before != trace.Now || trace.Before == 0 {
				t.Fatal("Follow to itself", v, trace)
			}
		}
		if code != impl.OK || len(itself) != len(v.faces(t)) {
			t.Fatal("Follow to itself", v, itself, code)
		}
	}
	return there
}

func TestWhatCanBecomeOfAFace(t *testing.T) {
	for want, got := range []int{0, impl.NmSame, impl.NmMoved, impl.NmTurned, impl.NmSplit, impl.NmLost, impl.NmCame} {
		if got != want {
			t.Error("what", want, "is", got)
		}
	}
}

func TestFollowOneBlock(t *testing.T) {
	b := box(2, 3, 4, 4, 6, 8)
	one := of(fill("a", b))
	checkFollow(t, one, one, tracedAlike("a", same, b))
	checkFollow(t, one, of(fill("a", boxMoved(b, 1, 0, 0))), tracedAlike("a", moved, b))
	checkFollow(t, one, of(fill("a", boxMoved(b, -2, 18, 0))), tracedAlike("a", moved, b))
	checkFollow(t, one, of(fill("a", boxMoved(b, 0, 0, -4))), tracedAlike("a", moved, b))
	// greater and smaller by what it reaches to the right, and to the left
	checkFollow(t, one, of(fill("a", box(2, 3, 4, 5, 6, 8))), traced("a", [4]int{1, same, 12, 12}, [4]int{2, moved, 12, 12}, [4]int{3, turns, 8, 12}, [4]int{4, turns, 8, 12}, [4]int{5, turns, 6, 9}, [4]int{6, turns, 6, 9}))
	checkFollow(t, one, of(fill("a", box(2, 3, 4, 3, 6, 8))), traced("a", [4]int{1, same, 12, 12}, [4]int{2, moved, 12, 12}, [4]int{3, turns, 8, 4}, [4]int{4, turns, 8, 4}, [4]int{5, turns, 6, 3}, [4]int{6, turns, 6, 3}))
	checkFollow(t, one, of(fill("a", box(1, 3, 4, 4, 6, 8))), traced("a", [4]int{1, moved, 12, 12}, [4]int{2, same, 12, 12}, [4]int{3, turns, 8, 12}, [4]int{4, turns, 8, 12}, [4]int{5, turns, 6, 9}, [4]int{6, turns, 6, 9}))
	checkFollow(t, one, of(fill("a", box(2, 3, 3, 4, 6, 8))), traced("a", [4]int{1, turns, 12, 15}, [4]int{2, turns, 12, 15}, [4]int{3, turns, 8, 10}, [4]int{4, turns, 8, 10}, [4]int{5, moved, 6, 6}, [4]int{6, same, 6, 6}))
	// another form with the same areas is moved, not turned
	checkFollow(t, of(fill("a", box(0, 0, 0, 2, 6, 1))), of(fill("a", box(0, 0, 0, 3, 4, 1))), traced("a", [4]int{1, turns, 6, 4}, [4]int{2, turns, 6, 4}, [4]int{3, turns, 2, 3}, [4]int{4, turns, 2, 3}, [4]int{5, moved, 12, 12}, [4]int{6, moved, 12, 12}))
	// another name, another face
	checkFollow(t, one, of(fill("b", b)), tracedAlike("a", lost, b), tracedAlike("b", came, b))
}

func TestFollowOfPartsWithoutACell(t *testing.T) {
	one := of(fill("a", unit))
	nothing := []version{of(), {[]impl.Feature{}, []string{}}, one.without("a"), of(empty("a", unit)), of(fill("a", unit), empty("p", unit)), of(fill("b", unit), stand("b", impl.SdTop, fill("a", unit))).without("b")}
	for _, none := range nothing {
		checkFollow(t, none, one, tracedAlike("a", came, unit))
		checkFollow(t, one, none, tracedAlike("a", lost, unit))
		for _, other := range nothing {
			checkFollow(t, none, other)
		}
	}
}

func TestFollowWhatIsPutInAndTakenAway(t *testing.T) {
	a, b := box(0, 0, 0, 4, 3, 2), box(10, 0, 0, 11, 1, 1)
	plate, pad := fill("a", a), fill("b", b)
	checkFollow(t, of(plate), of(plate, pad), tracedAlike("a", same, a), tracedAlike("b", came, b))
	checkFollow(t, of(plate, pad), of(plate), tracedAlike("a", same, a), tracedAlike("b", lost, b))
	checkFollow(t, of(plate, pad), of(plate, pad).without("b"), tracedAlike("a", same, a), tracedAlike("b", lost, b))
	checkFollow(t, of(plate, pad).without("b", "b"), of(plate, pad).without("a"), tracedAlike("a", lost, a), tracedAlike("b", came, b))
	// the order of the list is not what is told
	checkFollow(t, of(pad, plate), of(plate, pad), tracedAlike("a", same, a), tracedAlike("b", same, b))
	// a slot through the plate's top, at its edge and in its middle
	rest := traced("a", [4]int{5, same, 12, 12})
	edge := empty("p", box(3, 0, 1, 4, 3, 2))
	checkFollow(t, of(plate), of(plate, edge),
		traced("a", [4]int{1, same, 6, 6}, [4]int{2, turns, 6, 3}, [4]int{3, turns, 8, 7}, [4]int{4, turns, 8, 7}), rest, traced("a", [4]int{6, turns, 12, 9}), traced("p", [4]int{1, came, 0, 3}, [4]int{5, came, 0, 3}))
	slot := empty("p", box(1, 0, 1, 2, 3, 2))
	checkFollow(t, of(plate), of(plate, slot),
		traced("a", [4]int{1, same, 6, 6}, [4]int{2, same, 6, 6}, [4]int{3, turns, 8, 7}, [4]int{4, turns, 8, 7}), rest, traced("a", [4]int{6, splits, 12, 9}), traced("p", [4]int{1, came, 0, 3}, [4]int{2, came, 0, 3}, [4]int{5, came, 0, 3}))
	checkFollow(t, of(plate, slot), of(plate, slot).without("p"),
		traced("a", [4]int{1, same, 6, 6}, [4]int{2, same, 6, 6}, [4]int{3, turns, 7, 8}, [4]int{4, turns, 7, 8}), rest, traced("a", [4]int{6, turns, 9, 12}), traced("p", [4]int{1, lost, 3, 0}, [4]int{2, lost, 3, 0}, [4]int{5, lost, 3, 0}))
	// a face that only one of the parts has, of a feature that both have
	cover := fill("c", box(0, 0, 2, 4, 3, 3))
	got, code := follow(of(plate), of(plate, cover))
	if code != impl.OK || !slices.Contains(got, impl.Trace{Feature: "a", Side: 6, What: lost, Before: 12}) {
		t.Error("a face that was covered", got, code)
	}
	// what stands on a face goes with it, and is left out with it
	raised := fill("a", box(0, 0, 1, 4, 3, 2))
	on := stand("a", impl.SdTop, fill("s", box(1, 1, 0, 2, 2, 5)))
	tower := box(1, 1, 2, 2, 2, 7)
	low := fill("a", box(0, 0, 0, 4, 3, 1))
	checkFollow(t, of(low, on), of(raised, on), traced("a", [4]int{1, moved, 3, 3}, [4]int{2, moved, 3, 3}, [4]int{3, moved, 4, 4}, [4]int{4, moved, 4, 4}, [4]int{5, moved, 12, 12}, [4]int{6, moved, 11, 11}),
		traced("s", [4]int{1, moved, 5, 5}, [4]int{2, moved, 5, 5}, [4]int{3, moved, 5, 5}, [4]int{4, moved, 5, 5}, [4]int{6, moved, 1, 1}))
	checkFollow(t, of(raised, on).without("a"), of(fill("s", tower)), tracedAlike("s", came, tower))
}

// A plate of nine cells, whose top is what its covers leave open: rows of signs
// for y from 0 on, # where it is open.
func openTop(rows string) version {
	v := of(fill("a", box(0, 0, 0, 3, 3, 1)))
	for y, row := range strings.Fields(rows) {
		for x, sign := range row {
			if sign == '.' {
				v.list = append(v.list, fill(fmt.Sprintf("c%d%d", x, y), box(x, y, 1, x+1, y+1, 2)))
			}
		}
	}
	return v
}

func TestFollowAFaceByItsPieces(t *testing.T) {
	whole := "### ### ###"
	for _, c := range []struct {
		old, late         string
		what, before, now int
	}{
		{whole, whole, same, 9, 9},
		// from one piece to several: with another area, with the same one, with the same box too
		{whole, "### ... ###", splits, 9, 6},
		{whole, "#.# .#. #.#", splits, 9, 5},
		{whole, "#.# ... #.#", splits, 9, 4},
		{"##. ... ...", "#.# ... ...", splits, 2, 2},
		{"##. ##. ...", "#.# #.# ...", splits, 4, 4},
		{"### ... ...", "#.# ... #..", splits, 3, 3},
		{"##. ... ...", "### ... ###", splits, 2, 6},
		{"### #.. #..", "### ... ##.", splits, 5, 5},
		{"### #.. #..", "#.# .#. #.#", splits, 5, 5},
		// from several to one
		{"### ... ###", whole, turns, 6, 9},
		{"#.# ... ...", "##. ... ...", turns, 2, 2},
		{"#.# .#. #.#", "### #.. #..", turns, 5, 5},
		{"#.# .#. #.#", "#.. ... ...", turns, 5, 1},
		// from several to more, and to fewer
		{"#.# ... ...", "#.# ... #..", turns, 2, 3},
		{"### ... #.#", "#.# .#. #.#", turns, 5, 5},
		{"#.# .#. #.#", "### ... #.#", turns, 5, 5},
		{"### ... ###", "#.# ... #.#", turns, 6, 4},
		// from several to as many
		{"### ... ###", "#.# #.# #.#", same, 6, 6},
		{"#.# ... ...", "#.# ... ...", same, 2, 2},
		{"#.# ... ...", "#.. ... #..", moved, 2, 2},
		{"#.# ... ...", "... #.# ...", moved, 2, 2},
		{"#.# ... ...", "#.. .#. ...", moved, 2, 2},
		{"### ... ###", "### ... ##.", turns, 6, 5},
		{"#.# ... #.#", "#.# .#. ..#", same, 4, 4},
		{"#.# ... #..", "#.. .#. ..#", same, 3, 3},
		// one piece stays one: with the same box and another area, with another box
		{whole, "### #.# ###", turns, 9, 8},
		{whole, "#.# ### #.#", turns, 9, 7},
		{"##. ... ...", ".## ... ...", moved, 2, 2},
		{"##. ... ...", "#.. #.. ...", moved, 2, 2},
		{"##. ... ...", "### ... ...", turns, 2, 3},
		{"### #.. #..", "### ..# ..#", same, 5, 5},
		{"### ### .#.", "#.# ### ##.", same, 7, 7},
		{"### ### #..", "### #.# .##", same, 7, 7},
		{"### ### #..", "##. ##. ###", same, 7, 7},
		// there, and not there
		{whole, "... ... ...", lost, 9, 0},
		{"#.# ... #.#", "... ... ...", lost, 4, 0},
		{"... ... ...", "#.. ... ...", came, 0, 1},
		{"... ... ...", "#.# ... #.#", came, 0, 4},
	} {
		old, late := openTop(c.old), openTop(c.late)
		got, code := follow(old, late)
		want := impl.Trace{Feature: "a", Side: impl.SdTop, What: c.what, Before: c.before, Now: c.now}
		if code != impl.OK || !slices.Contains(got, want) {
			t.Error("Follow", c.old, "to", c.late, got, code, "not", want)
		}
		checkFollowByOracle(t, old, late)
	}
}

// Each side can split, as the others can.
func TestFollowASplitOfEachSide(t *testing.T) {
	cube := fill("a", box(5, 5, 5, 8, 8, 8))
	for side, cut := range []impl.Box{{}, box(0, 0, 6, 6, 24, 7), box(7, 6, 0, 24, 7, 24), box(6, 0, 0, 7, 6, 24), box(0, 7, 6, 24, 24, 7), box(0, 6, 0, 24, 7, 6), box(6, 0, 7, 7, 24, 24)} {
		if side == 0 {
			continue
		}
		got, code := follow(of(cube), of(cube, empty("p", cut)))
		if code != impl.OK || !slices.Contains(got, impl.Trace{Feature: "a", Side: side, What: splits, Before: 9, Now: 6}) {
			t.Error("side", side, got, code)
		}
		checkFollowByOracle(t, of(cube), of(cube, empty("p", cut)))
	}
}

func TestFollowTellsByNamesThenBySides(t *testing.T) {
	names := []string{"A", "Z", "Zz", "_", "a", "a1", "a10", "a2", "aB", "aa", "ab", "b", "z", "ß", "é", "ö", "Ā", "ɏ", "Α", "Ω", "ж", "жа"}
	if !slices.IsSorted(names) {
		t.Fatal("the names are to stand by their bytes")
	}
	var old, late []impl.Feature
	var want []impl.Trace
	for i, name := range names {
		b := boxMoved(unit, i, (i*7)%23, (i*5)%24)
		what := []int{same, lost, came}[i%3]
		if what != came {
			old = append(old, fill(name, b))
		}
		if what != lost {
			late = append(late, fill(name, b))
		}
		want = append(want, tracedAlike(name, what, b)...)
	}
	slices.Reverse(old)
	late = append(late[9:], late[:9]...)
	for range 5 { // maps are gone through in another order each time
		checkFollow(t, version{list: old}, version{list: late}, want)
	}
}

// notBuilt are versions of which there is no part, each with its code.
func notBuilt() map[int][]version {
	cover := fill("c", box(0, 0, 1, 3, 1, 2))
	bar, top := fill("a", box(0, 0, 0, 3, 1, 1)), stand("a", impl.SdTop, fill("x", unit))
	return map[int][]version{
		impl.ErrMany:  {{list: manyFeatures(31)}, {list: manyFeatures(31), off: []string{"no"}}, {list: manyFeatures(impl.MaxList)}},
		impl.ErrBad:   {{list: []impl.Feature{{}}}, {list: append(features("a", "a"), fill("", unit))}, {list: []impl.Feature{fill("a", box(0, 0, 0, 25, 1, 1))}, off: []string{"a"}}},
		impl.ErrTwice: {{list: features("a", "a", "b on c")}},
		impl.ErrName:  {{list: features("a on b")}, {list: features("a of b"), off: []string{"a"}}, {list: features("a"), off: []string{"b"}}, {off: []string{""}}, {list: []impl.Feature{bar, cover, top}, off: []string{"c", "A"}}, {list: features("a"), off: append(slices.Repeat([]string{"a"}, impl.MaxList-1), "b")}},
		impl.ErrLoop:  {{list: features("a on b", "b on a"), off: []string{"a"}}},
		impl.ErrNone:  {of(bar, cover, top), {list: []impl.Feature{bar, cover, top, fill("z", unit)}, off: []string{"z"}}},
		impl.ErrState: {of(bar, fill("s", box(1, 0, 1, 2, 1, 2)), top)},
		impl.ErrRange: {of(bar, again("r", "a", 8, 3, 0, 0)), of(fill("a", box(-1, 0, 0, 1, 1, 1)))},
		impl.ErrLong: {
			{list: manyFeatures(impl.MaxList + 1)}, {list: manyFeatures(impl.MaxList + 1), off: []string{"no"}},
			{list: features("a"), off: slices.Repeat([]string{"a"}, impl.MaxList+1)}, {list: features("a"), off: slices.Repeat([]string{"no"}, impl.MaxList+1)}, {list: features("a on b"), off: slices.Repeat([]string{"a"}, impl.MaxList+1)},
		},
	}
}

func TestFollowWhatIsNotBuilt(t *testing.T) {
	right := of(fill("a", unit))
	for code, wrong := range notBuilt() {
		for _, v := range wrong {
			for _, c := range []struct {
				old, late version
			}{{v, right}, {right, v}, {v, v}, {of(), v}, {v, of()}} {
				if got, gotCode := follow(c.old, c.late); len(got) != 0 || gotCode != code {
					t.Error("Follow", short(c.old), "to", short(c.late), short(got), gotCode, "not", code)
				}
			}
		}
	}
	// the old ones' code ahead of the late ones', but for what is too long
	for oldCode, olds := range notBuilt() {
		for lateCode, lates := range notBuilt() {
			want := oldCode
			if lateCode == impl.ErrLong {
				want = impl.ErrLong
			}
			for _, old := range olds {
				for _, late := range lates {
					if got, code := follow(old, late); len(got) != 0 || code != want {
						t.Error("Follow", short(old), "to", short(late), short(got), code, "not", want)
					}
				}
			}
		}
	}
}

func TestFollowManyLeftOut(t *testing.T) {
	a, b := fill("a", unit), fill("b", box(2, 2, 2, 3, 3, 3))
	most := slices.Repeat([]string{"a"}, impl.MaxList)
	checkFollow(t, of(a, b).without(most...), of(a, b), tracedAlike("a", came, a.Box), tracedAlike("b", same, b.Box))
	checkFollow(t, of(a, b), of(a, b).without(most...), tracedAlike("a", lost, a.Box), tracedAlike("b", same, b.Box))
	checkFollow(t, of(a, b).without(most...), of(a, b).without(most...), tracedAlike("b", same, b.Box))
	whole := version{list: manyFeatures(30)}
	checkFollow(t, whole, whole, tracedAlike("f0", same, unit))
	checkFollow(t, whole, whole.without("f0"), tracedAlike("f0", lost, unit), tracedAlike("f1", came, unit))
}
