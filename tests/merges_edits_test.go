package tests

import (
	"fmt"
	"slices"
	"strings"
	"testing"

	"loop.example/g00056/impl"
)

func TestEditKinds(t *testing.T) {
	if impl.EdAdd != 1 || impl.EdDrop != 2 || impl.EdTurn != 3 {
		t.Error("kinds", impl.EdAdd, impl.EdDrop, impl.EdTurn)
	}
	edits, code := impl.Edits(featuresTold("turned1 dropped1 same1"), featuresTold("same1 added1 turned2"))
	if code != impl.OK || !slices.Equal(edits, []impl.Edit{{Kind: 1, Name: "added"}, {Kind: 2, Name: "dropped"}, {Kind: 3, Name: "turned"}}) {
		t.Error("Edits", edits, code)
	}
}

func TestEditsKnownByHand(t *testing.T) {
	checkEditsTold(t, "", "", "")
	checkEditsTold(t, "a1", "a1", "")
	checkEditsTold(t, "a1 b2@a r3=a", "a1 b2@a r3=a", "")
	checkEditsTold(t, "", "a1", "+a")
	checkEditsTold(t, "a1", "", "-a")
	checkEditsTold(t, "a1", "a2", "~a")
	checkEditsTold(t, "a1", "b1", "-a +b")
	checkEditsTold(t, "b1", "a1", "+a -b")
	// in the order of names, not of the lists
	checkEditsTold(t, "", "c1 a1 b1", "+a +b +c")
	checkEditsTold(t, "c1 b1 a1", "", "-a -b -c")
	checkEditsTold(t, "b1 c1 a1", "c2 a2 b2", "~a ~b ~c")
	checkEditsTold(t, "a1 b2 c3", "c3 a1 m8", "-b +m")
	checkEditsTold(t, "a1 b2 c3", "n9 a5 b2 c3", "~a +n")
	checkEditsTold(t, "b1 d1 f1", "g1 f1 e1 d2 a1", "+a -b ~d +e +g")
	checkEditsTold(t, "f1 e1 d1 c1 b1 a1", "a2 z1 c1 d3 f1", "~a -b ~d -e +z")
	// another order is no edit
	checkEditsTold(t, "a1 b2 c3", "c3 b2 a1", "")
	checkEditsTold(t, "a1 b2@a r3=a", "r3=a b2@a a1", "")
	checkEditsTold(t, "a1 b2 c3", "c3 b1 a1", "~b")
	// what a feature names is its own; what is named may be turned without it
	checkEditsTold(t, "a1 b1@a", "a2 b1@a", "~a")
	checkEditsTold(t, "a1 b1@a c1", "a1 b1@c c1", "~b")
	checkEditsTold(t, "a1 b1@a", "a1 b1", "~b")
	checkEditsTold(t, "a1 b1 r1=a", "a1 b1 r1=b", "~r")
	checkEditsTold(t, "a1 b1", "a1 b1=a", "~b")
	checkEditsTold(t, "a1 b1@a", "b1 a1@b", "~a ~b")
}

func TestEditsInTheOrderOfTexts(t *testing.T) {
	names := []string{"A", "A0", "Aa", "B", "Z", "_", "_0", "__", "_a", "a", "a0", "a00", "a01", "a1", "a10", "a2", "aA", "aZ", "a_", "aa", "aaa", "ab", "aé", "b", "z", "é", "Ā", "Ж", "а"}
	if !slices.IsSorted(names) || len(names) > impl.MaxFeatures {
		t.Fatal("names", names)
	}
	there, back := strings.Join(names, "1 ")+"1", strings.Join(backward(names), "2 ")+"2"
	checkEditsTold(t, "", there, "+"+strings.Join(names, " +"))
	checkEditsTold(t, back, "", "-"+strings.Join(names, " -"))
	checkEditsTold(t, back, there, "~"+strings.Join(names, " ~"))
	long := strings.Repeat("a", impl.MaxName-1)
	checkEditsTold(t, long+"b1 "+long+"1", long+"c1 "+long+"a1", fmt.Sprintf("-%s +%sa -%sb +%sc", long, long, long, long))
}

func backward(names []string) []string {
	names = slices.Clone(names)
	slices.Reverse(names)
	return names
}

// turnedInOneField: right features that are another one in just one field each,
// with the name x, beside a list that all of them can stand in.
func turnedInOneField() map[impl.Feature][]impl.Feature {
	turned := map[impl.Feature][]impl.Feature{}
	for _, f := range rightKinds {
		for field := range fieldCount {
			for number := -impl.Grid; number <= impl.Grid; number++ {
				if changed := withNumber(f, field, number); changed != f && rightNumbers(changed) {
					turned[f] = append(turned[f], changed)
				}
			}
		}
		changed := f
		if f.On != "" {
			changed.On = "other"
		} else if f.Of != "" {
			changed.Of = "other"
		}
		if changed != f {
			turned[f] = append(turned[f], changed)
		}
	}
	return turned
}

func besideBase(list ...impl.Feature) []impl.Feature {
	return append([]impl.Feature{fill("base", unit), fill("other", unit)}, list...)
}

func TestEditsOfOneField(t *testing.T) {
	fields := map[string]int{}
	for f, others := range turnedInOneField() {
		base := besideBase(f)
		for _, g := range others {
			edits := checkEdits(t, base, besideBase(g))
			if !slices.Equal(edits, []impl.Edit{{Kind: impl.EdTurn, Name: "x"}}) {
				t.Error("Edits", f, g, edits)
			}
			checkEditsApplied(t, base, besideBase(g))
			merged, code := checkMerge(t, base, besideBase(g), append(features("m"), base...))
			if code != impl.OK || !slices.Equal(merged, besideBase(g, fill("m", unit))) {
				t.Error("Merge", f, g, merged, code)
			}
			fields[turnedField(f, g)]++
		}
		// another name is another feature
		renamed := f
		renamed.Name = "y"
		if edits := checkEdits(t, base, besideBase(renamed)); editsTold(edits) != "-x +y" {
			t.Error("Edits of another name", f, edits)
		}
	}
	if len(fields) != 14 {
		t.Error("fields that were turned:", fields)
	}
}

func turnedField(f, g impl.Feature) string {
	if f.On != g.On {
		return "On"
	}
	if f.Of != g.Of {
		return "Of"
	}
	for field, number := range numberFields(&f) {
		if *number != *numberFields(&g)[field] {
			return fmt.Sprint(field)
		}
	}
	return "none"
}

func TestEditsCodes(t *testing.T) {
	for code, base := range versionsOfEachCode() {
		if code != impl.OK {
			checkNoVersion(t, base, code)
		}
		for lateCode, late := range versionsOfEachCode() {
			edits, got := impl.Edits(base, late)
			if len(edits) != 0 || got != firstCode(code, lateCode) {
				t.Error("Edits", short(base), short(late), edits, got, "not", firstCode(code, lateCode))
			}
		}
	}
	for _, c := range []struct{ count, code int }{{30, impl.OK}, {31, impl.ErrMany}, {impl.MaxList, impl.ErrMany}, {impl.MaxList + 1, impl.ErrLong}, {2 * impl.MaxList, impl.ErrLong}} {
		if edits, code := impl.Edits(manyFeatures(c.count), manyFeatures(c.count)); len(edits) != 0 || code != c.code {
			t.Error("Edits of", c.count, edits, code)
		}
		if c.code != impl.OK {
			checkNoVersion(t, manyFeatures(c.count), c.code)
		}
	}
	// a list that is too long is told ahead of a fault that stands ahead of it
	for _, wrong := range versionsOfEachCode() {
		for _, given := range [][2][]impl.Feature{{wrong, manyFeatures(impl.MaxList + 1)}, {manyFeatures(impl.MaxList + 1), wrong}} {
			if edits, code := impl.Edits(given[0], given[1]); len(edits) != 0 || code != impl.ErrLong {
				t.Error("Edits", short(given[0]), short(given[1]), edits, code)
			}
		}
	}
}

// As many as can be, all of which are edited.
func TestEditsOfManyFeatures(t *testing.T) {
	many, none := manyFeatures(impl.MaxFeatures), []impl.Feature(nil)
	turned, others := slices.Clone(many), slices.Clone(many)
	for i := range many {
		turned[i].Kind = impl.FtPocket
		others[i].Name = fmt.Sprint("g", i)
	}
	for _, c := range []struct {
		base, late []impl.Feature
		count      int
	}{{many, none, 30}, {none, many, 30}, {many, turned, 30}, {many, others, 60}, {others, turned, 60}, {many, many, 0}} {
		if edits := checkEdits(t, c.base, c.late); len(edits) != c.count {
			t.Error("Edits", short(c.base), short(c.late), len(edits), "not", c.count)
		}
		checkEditsApplied(t, c.base, c.late)
	}
}
