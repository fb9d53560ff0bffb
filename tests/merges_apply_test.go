package tests

import (
	"fmt"
	"slices"
	"strings"
	"testing"

	"loop.example/g00056/impl"
)

func TestAppliedKnownByHand(t *testing.T) {
	base, late := "a1 b2 c3", "c3 a1 m8"
	checkApplyTold(t, base, late, "", base)
	checkApplyTold(t, base, late, "b", "a1 c3")
	checkApplyTold(t, base, late, "m", "a1 b2 c3 m8")
	checkApplyTold(t, base, late, "b m", "a1 c3 m8")
	checkApplyTold(t, base, late, "m b", "a1 c3 m8")
	// a name that is in both and was not edited
	checkApplyTold(t, base, late, "a", base)
	checkApplyTold(t, base, late, "c a", base)
	checkApplyTold(t, base, late, "b c", "a1 c3")
	checkApplyTold(t, base, late, "a b c m", "a1 c3 m8")
	checkApplyTold(t, base, base, "c b a", base)
	checkApplyTold(t, base, "c3 b2 a1", "c b a", base)
	// a name twice
	checkApplyTold(t, base, late, "b b", "a1 c3")
	checkApplyTold(t, base, late, "m m m", "a1 b2 c3 m8")
	checkApplyTold(t, base, late, "m b a b m a", "a1 c3 m8")
	// what is turned stays where it is
	checkApplyTold(t, base, "c4 b5 a6", "b", "a1 b5 c3")
	checkApplyTold(t, base, "c4 b5 a6", "c a", "a6 b2 c4")
	checkApplyTold(t, base, "c4 b5 a6", "a b c", "a6 b5 c4")
	checkApplyTold(t, base, "c3 b2@c a1", "b", "a1 b2@c c3")
	checkApplyTold(t, base, "c2=a a1", "c", "a1 b2 c2=a")
	// nothing in one of them, or in both
	checkApplyTold(t, "", "", "", "")
	checkApplyTold(t, "", late, "", "")
	checkApplyTold(t, "", late, "c", "c3")
	checkApplyTold(t, "", late, "m a c", late)
	checkApplyTold(t, base, "", "b", "a1 c3")
	checkApplyTold(t, base, "", "c b a", "")
}

// What is added stands behind all, in the order of the late version, not in that
// of the names.
func TestAppliedInOrder(t *testing.T) {
	late := "z1 b5 y1 a1 x1@y"
	checkApplyTold(t, "a1 b1", late, "z", "a1 b1 z1")
	checkApplyTold(t, "a1 b1", late, "y z", "a1 b1 z1 y1")
	checkApplyTold(t, "a1 b1", late, "x z y", "a1 b1 z1 y1 x1@y")
	checkApplyTold(t, "a1 b1", late, "x b y", "a1 b5 y1 x1@y")
	checkApplyTold(t, "b1 a1", late, "x y b z", "b5 a1 z1 y1 x1@y")
	checkApplyTold(t, "a1 b1", "x1@y y1 z1@x", "z y x", "a1 b1 x1@y y1 z1@x")
	checkApplyTold(t, "d1 c1 b1 a1", "f1 a2 e1 c2", "f e d a", "c1 b1 a2 f1 e1")
}

func TestAppliedNamesThatAreInNeither(t *testing.T) {
	base, late := "a1 b2 c3", "c3 a1 m8"
	for _, names := range []string{"x", "b x", "x b", "b x m", "a b c m x", "x a b c m", "x x", "A", "aa", "a1", "a a0 b", "_", "é"} {
		checkNotApplied(t, base, late, names, impl.ErrName)
		checkNotApplied(t, late, base, names, impl.ErrName)
	}
	checkNotApplied(t, "", "", "a", impl.ErrName)
	checkNotApplied(t, base, "", "m", impl.ErrName)
	checkNotApplied(t, "", late, "b", impl.ErrName)
	for _, name := range []string{"", " ", "b ", " b", "b\x00", "\xff", "9", "a b", strings.Repeat("a", impl.MaxName+1), strings.Repeat("b", impl.MaxText), strings.Repeat("b", impl.MaxText+1)} {
		for _, names := range [][]string{{name}, {"b", name}, {name, "b"}, {"b", name, "m"}} {
			if applied, code := checkApply(t, featuresTold(base), featuresTold(late), names); len(applied) != 0 || code != impl.ErrName {
				t.Errorf("Apply for %q: %v %d", short(names), applied, code)
			}
		}
	}
}

func TestAppliedListsThatCanNotStand(t *testing.T) {
	// an added feature that names one that is not added
	late := "a1 b1 c1@b r2=b s2=a"
	checkNotApplied(t, "a1", late, "c", impl.ErrState)
	checkNotApplied(t, "a1", late, "r", impl.ErrState)
	checkNotApplied(t, "a1", late, "r c s", impl.ErrState)
	checkApplyTold(t, "a1", late, "s", "a1 s2=a")
	checkApplyTold(t, "a1", late, "c b", "a1 b1 c1@b")
	checkApplyTold(t, "a1", late, "r s b", "a1 b1 r2=b s2=a")
	// a dropped one that another names
	checkNotApplied(t, "a1 b1@a c1", "b1 c1", "a", impl.ErrState)
	checkApplyTold(t, "a1 b1@a c1", "b1 c1", "b", "a1 b1 c1")
	checkApplyTold(t, "a1 b1@a c1", "b1 c1", "a b", "b1 c1")
	checkNotApplied(t, "a1 b1 r2=b", "c3 a1 m8", "b", impl.ErrState)
	checkApplyTold(t, "a1 b1 r2=b", "c3 a1 m8", "b r", "a1")
	// a turned one that names what is not added, or that a row does again
	checkNotApplied(t, "a1 b1", "a1@c b1 c1", "a", impl.ErrState)
	checkApplyTold(t, "a1 b1", "a1@c b1 c1", "a c", "a1@c b1 c1")
	checkNotApplied(t, "a1 b1 r2=a", "a1@b b1 r2=b", "a", impl.ErrState)
	checkApplyTold(t, "a1 b1 r2=a", "a1@b b1 r2=b", "a r", "a1@b b1 r2=b")
	checkNotApplied(t, "a1 b1 r2=a", "a2=b b1 r2=b", "a", impl.ErrState)
	checkApplyTold(t, "a1 b1 r2=a", "a2=b b1 r2=b", "r", "a1 b1 r2=b")
	// a circle
	checkNotApplied(t, "a1 b1@a", "a1@b b1", "a", impl.ErrState)
	checkApplyTold(t, "a1 b1@a", "a1@b b1", "b", "a1 b1")
	checkApplyTold(t, "a1 b1@a", "a1@b b1", "b a", "a1@b b1")
	checkNotApplied(t, "a1 b1@a c1@b", "a1@c b1 c1@b", "a", impl.ErrState)
	checkApplyTold(t, "a1 b1@a c1@b", "a1@c b1 c1@b", "a b", "a1@c b1 c1@b")
	// a name that is in neither is told ahead of that
	checkNotApplied(t, "a1", late, "c x", impl.ErrName)
	checkNotApplied(t, "a1 b1@a", "a1@b b1", "a x", impl.ErrName)
}

func TestAppliedListsThatAreTooLong(t *testing.T) {
	base := manyFeatures(20)
	late := manyFeatures(30)
	for i := range 20 {
		late[i].Name = fmt.Sprint("g", i) // f20 to f29 are added too
	}
	names := func(letter string, from, to int) []string {
		var names []string
		for i := from; i < to; i++ {
			names = append(names, fmt.Sprint(letter, i))
		}
		return names
	}
	for _, c := range []struct {
		names []string
		count int // 0: too many
	}{
		{names("g", 0, 10), 30}, {names("g", 0, 11), 0}, {names("g", 0, 20), 0}, {names("f", 20, 30), 30}, {slices.Concat(names("f", 20, 30), names("g", 3, 4)), 0},
		{slices.Concat(names("g", 0, 11), names("f", 7, 8)), 30}, {slices.Concat(names("g", 0, 12), names("f", 7, 8)), 0}, {slices.Concat(names("g", 0, 20), names("f", 0, 30)), 30}, {slices.Concat(names("g", 0, 20), names("f", 0, 29)), 29}, {slices.Concat(names("g", 0, 20), names("f", 1, 30)), 0},
	} {
		applied, code := checkApply(t, base, late, c.names)
		want := impl.OK
		if c.count == 0 {
			want = impl.ErrState
		}
		if code != want || len(applied) != c.count {
			t.Error("Apply", c.names, len(applied), code, "not", c.count)
		}
	}
}

// Edits that are applied, all or some and then the others, come to the same.
func TestAppliedInParts(t *testing.T) {
	stood := 0
	for _, versions := range [][2]string{
		{"a1 b1 c1", "a2 b2 c2"}, {"a1 b1 c1", "d1 e1 f1"}, {"a1 b1 c1", "c2 d1 e1@d a1"}, {"a1 b1@a c1@b", "a1@b b1@c c1"}, {"a1 b1@a r2=a", "r3=b b1 x1@r"}, {"", "a1 b1@a c1@b r1=a"}, {"a1 b1@a c1@b r1=a", ""},
	} {
		base, late := featuresTold(versions[0]), featuresTold(versions[1])
		edits := editNames(checkEdits(t, base, late))
		checkEditsApplied(t, base, late)
		for chosen := range 1 << len(edits) {
			var some, others []string
			for i, name := range edits {
				if chosen>>i&1 == 1 {
					some = append(some, name)
				} else {
					others = append(others, name)
				}
			}
			if checkInTwoParts(t, base, late, some, others) {
				stood++
			}
		}
		checkOneByOne(t, base, late, edits)
	}
	if stood < 30 {
		t.Error("too few parts could stand:", stood)
	}
}

// checkOneByOne applies each edit alone, as soon as the list can stand with it.
func checkOneByOne(t *testing.T, base, late []impl.Feature, edits []string) {
	t.Helper()
	at := base
	for len(edits) > 0 {
		next := slices.IndexFunc(edits, func(name string) bool {
			_, code := impl.Apply(at, late, []string{name})
			return code == impl.OK
		})
		if next < 0 {
			return // a circle that goes over into another one needs several at once
		}
		at, _ = checkApply(t, at, late, edits[next:next+1])
		edits = slices.Delete(slices.Clone(edits), next, next+1)
		if left := editNames(checkEdits(t, at, late)); !slices.Equal(left, edits) {
			t.Error("left", left, "not", edits)
		}
	}
	if !alikeButForOrder(at, late) {
		t.Error("one by one", short(base), short(late), short(at))
	}
}

func TestApplyCodes(t *testing.T) {
	for code, base := range versionsOfEachCode() {
		for lateCode, late := range versionsOfEachCode() {
			want := firstCode(code, lateCode)
			for _, names := range [][]string{nil, {"a"}, {"b", "a"}, {"nowhere"}, {""}, slices.Repeat([]string{"nowhere"}, impl.MaxList)} {
				wantHere := want
				if want == impl.OK && len(names) > 0 && !slices.Contains(names, "a") {
					wantHere = impl.ErrName
				}
				applied, got := impl.Apply(base, late, names)
				if got != wantHere || got != impl.OK && len(applied) != 0 || got == impl.OK && !slices.Equal(applied, base) {
					t.Error("Apply", short(base), short(late), short(names), short(applied), got, "not", wantHere)
				}
			}
			for _, names := range [][]string{make([]string, impl.MaxList+1), slices.Repeat([]string{"a"}, impl.MaxList+1), slices.Repeat([]string{"nowhere"}, 2*impl.MaxList)} {
				if applied, got := impl.Apply(base, late, names); len(applied) != 0 || got != impl.ErrLong {
					t.Error("Apply", short(base), short(late), "of too many names", short(applied), got)
				}
			}
		}
	}
	// as many names as a list has, of which each one counts
	base, late := featuresTold("a1 b2 c3"), featuresTold("c3 a1 m8")
	names := slices.Repeat([]string{"a"}, impl.MaxList)
	for _, c := range []struct {
		at         int
		name, want string
		code       int
	}{{0, "b", "a1 c3", impl.OK}, {impl.MaxList - 1, "b", "a1 c3", impl.OK}, {impl.MaxList - 1, "m", "a1 b2 c3 m8", impl.OK}, {impl.MaxList - 1, "x", "", impl.ErrName}, {0, "x", "", impl.ErrName}} {
		given := slices.Clone(names)
		given[c.at] = c.name
		if applied, code := checkApply(t, base, late, given); code != c.code || !slices.Equal(applied, featuresTold(c.want)) {
			t.Error("Apply of", c.name, "at", c.at, applied, code, "not", c.want, c.code)
		}
	}
}
