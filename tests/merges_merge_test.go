package tests

import (
	"fmt"
	"slices"
	"strings"
	"testing"

	"loop.example/g00056/impl"
)

func TestMergesKnownByHand(t *testing.T) {
	checkMergeTold(t, "a1 b2 c3", "n9 a5 b2 c3", "c3 a1 m8", "a5 c3 n9 m8")
	checkMergeTold(t, "a1 b2 c3", "c3 a1 m8", "n9 a5 b2 c3", "a5 c3 m8 n9")
	// one feature each
	checkMergeTold(t, "a1 b1", "a2 b1", "a1 b3", "a2 b3")
	checkMergeTold(t, "a1 b1", "a1 b3", "a2 b1", "a2 b3")
	checkMergeTold(t, "a1 b1", "b1", "a1 b3", "b3")
	checkMergeTold(t, "a1 b1", "b1", "a1", "")
	checkMergeTold(t, "a1 b1", "b1 c1", "a1 d1", "c1 d1")
	checkMergeTold(t, "a1", "a1 b1", "a1 c1", "a1 b1 c1")
	checkMergeTold(t, "a1", "a1 c1", "a1 b1", "a1 c1 b1")
}

func TestMergesInOrder(t *testing.T) {
	// what was there keeps base's order, what was added stands behind it in the order of its own version
	checkMergeTold(t, "a1 b1 c1", "c1 b1 a1", "b1 c1 a1", "a1 b1 c1")
	checkMergeTold(t, "b1 a1 c1", "c2 a1 b1", "c1 b1 a2", "b1 a2 c2")
	checkMergeTold(t, "x1", "q1 x1 p1", "s1 x1 r1", "x1 q1 p1 s1 r1")
	checkMergeTold(t, "x1", "s1 x1 r1", "q1 x1 p1", "x1 s1 r1 q1 p1")
	checkMergeTold(t, "x1", "z1 y1 x2", "c1 b1 a1 x1", "x2 z1 y1 c1 b1 a1")
	checkMergeTold(t, "d1 c1 b1 a1", "a1 b2 d1", "e1 d1 c1 b1", "d1 b2 e1")
	// those that both added stand where one has them
	checkMergeTold(t, "x1", "x1 p1 q1", "s1 q1 x1 r1", "x1 p1 q1 s1 r1")
	checkMergeTold(t, "x1", "s1 q1 x1 r1", "x1 p1 q1", "x1 s1 q1 r1 p1")
	checkMergeTold(t, "", "a1 b1 c1", "c1 d1 b1 a1", "a1 b1 c1 d1")
	checkMergeTold(t, "", "c1 d1 b1 a1", "a1 b1 c1", "c1 d1 b1 a1")
}

func TestMergesOfNothing(t *testing.T) {
	checkMergeTold(t, "", "", "", "")
	checkMergeTold(t, "", "a1", "", "a1")
	checkMergeTold(t, "", "", "a1", "a1")
	checkMergeTold(t, "", "a1 c1", "b1", "a1 c1 b1")
	checkMergeTold(t, "a1 b1", "", "", "")
	checkMergeTold(t, "a1 b1", "", "a1 b1", "")
	checkMergeTold(t, "a1 b1", "b1 a1", "", "")
	checkMergeTold(t, "a1 b1", "", "c1 b1 a1", "c1")
	checkMergeTold(t, "a1 b1", "c1", "", "c1")
	checkClash(t, "a1 b1", "", "a1 b2", "b")
}

func TestMergesWithWhatWasNotEdited(t *testing.T) {
	base := featuresTold("a1 b1@a r2=a")
	for _, late := range []string{"", "a1 b1@a r2=a", "r2=a b1@a a1", "a2 b1@a r2=a", "b1 a1 c1@a", "a1 r1=a", "z1 y1@z r2=z x3", "b1@c c1"} {
		checkEditsApplied(t, base, featuresTold(late))
		checkEditsApplied(t, featuresTold(late), base)
	}
	// what was not edited keeps its order though the edited version has another one
	checkMergeTold(t, "c1 a1 b1", "b1 d1 a2 c1", "c1 a1 b1", "c1 a2 b1 d1")
	checkMergeTold(t, "c1 a1 b1", "c1 a1 b1", "b1 d1 a2 c1", "c1 a2 b1 d1")
	checkMergeTold(t, "c1 a1 b1", "b1 a1 c1", "b1 d1 a2 c1", "c1 a2 b1 d1")
}

func TestMergesThatComeToTheSame(t *testing.T) {
	checkMergeTold(t, "a1 b1", "a2 b1", "a2 b1", "a2 b1")
	checkMergeTold(t, "a1 b1", "b1 a2", "a2 b3", "a2 b3")
	checkMergeTold(t, "a1 b1", "b1", "b1", "b1")
	checkMergeTold(t, "a1 b1 c1 d1", "d2 b1", "b1 d2 e1", "b1 d2 e1")
	checkMergeTold(t, "a1 b1", "b1@c c1", "c1 b1@c", "b1@c c1")
	checkClash(t, "a1 b1 c1", "b1", "c2 b1", "c")
}

func TestClashes(t *testing.T) {
	checkClash(t, "a1 b1", "a2 b1", "a3 b1", "a")
	checkClash(t, "a1 b1", "b1", "a2 b1", "a")
	checkClash(t, "", "a1", "a2", "a")
	checkClash(t, "x1", "x1 a1", "a1@x x1", "a")
	checkClash(t, "x1 a1", "x1 a2", "x1 a1=x", "a")
	// what was renamed was dropped and added
	checkClash(t, "a1", "b1", "a2", "a")
	checkClash(t, "a1", "b1", "b2", "b")
	checkMergeTold(t, "a1", "b1", "c1", "b1 c1")
	checkMergeTold(t, "a1", "b1", "b1", "b1")
	// all that clash, rising, and none beside them
	checkClash(t, "d1 c1 b1 a1", "d2 c2 b2 a2", "d3 c3 b2 a3", "a c d")
	checkClash(t, "b1 c1 e1", "c2 z1 a1 e1", "b2 c3 z2 a1 y1 e2", "b c z")
	checkClash(t, "", "b1 a1 B1 a01 _1 é1 A1 aa1", "é2 aa2 a02 _2 A2 a2 b2 B2", "A B _ a a0 aa b é")
	// ahead of what FeatureOrder would say of the merged list
	checkClash(t, "a1 b1 c1", "a1 b1 c2 r1=b", "a1 c3", "c")
	checkClash(t, "a1 b1 c1", "a1@b b1 c2", "a1 b1@a c3", "c")
	checkNotMergedTold(t, "a1 b1 c1", "a1@b b1 c2", "a1 b1@a c2", impl.ErrLoop, "a b")
}

func TestClashesOfManyNames(t *testing.T) {
	base := manyFeatures(impl.MaxFeatures)
	one, two := slices.Clone(base), slices.Clone(base)
	for i := range base {
		one[i].Box.X1, two[i].Box.X1 = 2, 3
	}
	for range 50 {
		merged, code, about := impl.Merge(base, one, two)
		if len(merged) != 0 || code != impl.ErrState || !slices.Equal(about, namesIn(base)) {
			t.Fatal("Merge", short(merged), code, about)
		}
	}
	// all of two versions that have no name in common, and all of both that do
	other := slices.Clone(base)
	for i := range other {
		other[i].Name = fmt.Sprint("g", i)
	}
	checkNotMergedLists(t, nil, base, one, impl.ErrState, namesIn(base))
	checkNotMergedLists(t, nil, base, other, impl.ErrMany, nil)
	checkNotMergedLists(t, base, other, one, impl.ErrState, namesIn(base))
}

func checkNotMergedLists(t *testing.T, base, one, two []impl.Feature, code int, want []string) {
	t.Helper()
	merged, got, about := impl.Merge(base, one, two)
	if len(merged) != 0 || got != code || !slices.Equal(about, want) {
		t.Error("Merge", short(base), short(one), short(two), short(merged), got, about, "not", code, want)
	}
	checkMerge(t, base, one, two)
}

// A feature that both turned clashes in whichever fields they did so.
func TestClashesOfOneField(t *testing.T) {
	clashes := 0
	for f, others := range turnedInOneField() {
		base := besideBase(f)
		for i, g := range others {
			h := others[(i+1+i%7)%len(others)]
			merged, code := checkMerge(t, base, besideBase(g), besideBase(h))
			switch {
			case g == h && (code != impl.OK || !slices.Equal(merged, besideBase(g))):
				t.Error("Merge of the same", f, g, merged, code)
			case g != h && code != impl.ErrState:
				t.Error("Merge of others", f, g, h, merged, code)
			case g != h:
				clashes++
			}
			checkNotMergedLists(t, base, besideBase(g), besideBase(), impl.ErrState, []string{"x"})
			checkNotMergedLists(t, besideBase(), besideBase(g), base, impl.ErrState, []string{"x"})
		}
	}
	if clashes < 500 {
		t.Error("too few clashes", clashes)
	}
}

func TestMergedListsThatCanNotStand(t *testing.T) {
	for _, c := range []struct {
		base, one, two string
		code           int
		about, other   string // the names, and those of the other way round
	}{
		// what one names the other one has dropped
		{"a1 b2 c3", "a1 b2 c3 r1=b", "c3 a1 m8", impl.ErrName, "r b", "r b"},
		{"a1 b1", "a1 b1@a", "b1", impl.ErrName, "b a", "b a"},
		{"a1 b1", "a1 b1 c1@a d1@b", "b1", impl.ErrName, "c a", "c a"},
		{"a1 b1", "b1 x1@b", "a1 y1@a", impl.ErrName, "x b", "y a"},
		{"a1 b1 c1", "a1 b1 c1@b", "a1 c1", impl.ErrName, "c b", "c b"},
		// what one does again the other one made a row, or has put on a face
		{"a1 b1", "a1 b1 r1=a", "a1=b b1", impl.ErrName, "r a", "r a"},
		{"a1 b1", "a1 b1 r1=a", "a1@b b1", impl.ErrName, "r a", "r a"},
		{"a1 b1 c1", "a1@b b1 c1", "a1 b1 c1=a", impl.ErrName, "c a", "c a"},
		{"a1 b1 c1", "a1 b1=c c1", "a1=b b1 c1", impl.ErrName, "a b", "a b"},
		// a circle that comes of two edits
		{"a1 b1", "a1@b b1", "a1 b1@a", impl.ErrLoop, "a b", "a b"},
		{"b1 a1", "a1@b b1", "a1 b1@a", impl.ErrLoop, "b a", "b a"},
		{"a1 b1 c1", "a1@b b1@c c1", "a1 b1 c1@a", impl.ErrLoop, "a b c", "a b c"},
		{"a1 b1", "x1@b a1@x b1", "a1 b1@a", impl.ErrLoop, "a x b", "a x b"},
		{"a1 b1", "x1@b a1@x b1", "y1@a a1 b1@y", impl.ErrLoop, "a x b y", "a x b y"},
		{"a1 b1 c1 d1", "a1@b b1 c1 d1@c", "a1 b1@a c1@d d1", impl.ErrLoop, "a b", "a b"},
		{"d1 c1 b1 a1", "a1@b b1 c1 d1@c", "a1 b1@a c1@d d1", impl.ErrLoop, "d c", "d c"},
	} {
		checkNotMergedTold(t, c.base, c.one, c.two, c.code, c.about)
		checkNotMergedTold(t, c.base, c.two, c.one, c.code, c.other)
	}
}

func TestMergedListsThatAreTooLong(t *testing.T) {
	base := manyFeatures(20)
	added := func(letter string, count, without int) []impl.Feature {
		list := slices.Clone(base[without:])
		for i := range count {
			list = append(list, fill(fmt.Sprint(letter, i), unit))
		}
		return list
	}
	for _, c := range []struct {
		one, two []impl.Feature
		code     int
	}{
		{added("x", 5, 0), added("y", 5, 0), impl.OK}, {added("x", 6, 0), added("y", 5, 0), impl.ErrMany}, {added("x", 5, 0), added("y", 6, 0), impl.ErrMany}, {added("x", 10, 0), added("y", 10, 0), impl.ErrMany},
		{added("x", 10, 0), added("x", 10, 0), impl.OK}, {added("x", 10, 0), added("x", 4, 0), impl.OK}, {added("x", 10, 0), base, impl.OK}, {added("x", 10, 0), added("y", 1, 0), impl.ErrMany},
		{added("x", 10, 0), added("y", 3, 3), impl.OK}, {added("x", 10, 0), added("y", 4, 3), impl.ErrMany}, {added("x", 13, 3), added("y", 3, 3), impl.ErrMany}, {added("x", 13, 3), added("y", 0, 3), impl.OK}, {added("x", 30, 20), base, impl.OK}, {added("x", 30, 20), added("y", 1, 0), impl.ErrMany}, {added("x", 29, 20), added("y", 1, 0), impl.OK},
	} {
		merged, code := checkMerge(t, base, c.one, c.two)
		if _, _, about := impl.Merge(base, c.one, c.two); code != c.code || len(about) != 0 || code != impl.OK && len(merged) != 0 {
			t.Error("Merge", short(namesIn(c.one)), short(namesIn(c.two)), len(merged), code, about, "not", c.code)
		}
	}
}

func TestMergedListsWithSeveralFaults(t *testing.T) {
	base := manyFeatures(20)
	one := slices.Concat(base, []impl.Feature{stand("f2", impl.SdTop, fill("on", unit))}, featuresTold("x1 y1 z1 v1"))
	two := slices.Concat(base, featuresTold("p1 q1 r1 s1 t1"))
	one[5], two[10] = stand("f10", impl.SdTop, one[5]), stand("f5", impl.SdTop, two[10])
	checkNotMergedLists(t, base, one, two, impl.ErrLoop, []string{"f5", "f10"})
	two = slices.Delete(two, 2, 3)
	checkNotMergedLists(t, base, one, two, impl.ErrName, []string{"on", "f2"})
	two = append(two, featuresTold("u1 w1")...)
	checkNotMergedLists(t, base, one, two, impl.ErrMany, nil)
	one[7].Box.X1, two[7].Kind = 2, impl.FtPocket // f7 and, without f2, f8
	checkMerge(t, base, one, two)
	checkNotMergedLists(t, base, one, append(two[:6:6], two[7:]...), impl.ErrState, []string{"f7"})
}

func TestMergeCodes(t *testing.T) {
	for code, base := range versionsOfEachCode() {
		for oneCode, one := range versionsOfEachCode() {
			for twoCode, two := range versionsOfEachCode() {
				want := firstCode(code, oneCode, twoCode)
				merged, got, about := impl.Merge(base, one, two)
				if got != want || want != impl.OK && len(merged) != 0 || len(about) != 0 {
					t.Error("Merge", short(base), short(one), short(two), short(merged), got, about, "not", want)
				}
			}
		}
	}
	// codes of the versions are told ahead of names that clash
	for code, wrong := range versionsOfEachCode() {
		if code == impl.OK {
			continue
		}
		one, two := featuresTold("a2"), featuresTold("a3")
		for _, given := range [][3][]impl.Feature{{wrong, one, two}, {one, wrong, two}, {one, two, wrong}} {
			if merged, got, about := impl.Merge(given[0], given[1], given[2]); len(merged) != 0 || got != code || len(about) != 0 {
				t.Error("Merge", short(given), short(merged), got, about, "not", code)
			}
		}
	}
}

// Two versions that edit different features: whichever comes first, the parts
// are the same, where none of what was edited lies where another one does.
func TestMergedPartsAreTheSameEitherWay(t *testing.T) {
	base := []impl.Feature{fill("plate", box(0, 0, 0, 9, 9, 2)), empty("slot", box(1, 1, 1, 2, 8, 2)), fill("foot", box(0, 0, 10, 3, 3, 12))}
	one := append(slices.Clone(base), stand("foot", impl.SdTop, fill("cap", box(0, 0, 0, 2, 2, 2))))
	one[1].Box.X1 = 3
	two := append([]impl.Feature{empty("hole", box(5, 5, 0, 6, 6, 2))}, base...)
	two[3].Box.X1 = 4
	there, code := checkMerge(t, base, one, two)
	back, backCode := checkMerge(t, base, two, one)
	if code != impl.OK || backCode != impl.OK || len(there) != 5 || strings.Join(namesOf(there), " ") != "plate slot foot cap hole" || strings.Join(namesOf(back), " ") != "plate slot foot hole cap" {
		t.Fatal("Merge", there, code, back, backCode)
	}
	part, code, _ := impl.Rebuild(there, nil)
	other, otherCode, _ := impl.Rebuild(back, nil)
	part.Order, other.Order = nil, nil
	if code != impl.OK || otherCode != impl.OK || !samePart(part, other) || part.Volume != 9*9*2-2*7-2+4*3*2+2*2*2 {
		t.Error("parts", part, code, other, otherCode)
	}
}

func namesOf(list []impl.Feature) []string {
	var names []string
	for _, f := range list {
		names = append(names, f.Name)
	}
	return names
}
