package tests

import (
	"fmt"
	"slices"
	"strings"
	"testing"

	"loop.example/g00056/impl"
)

// featuresTold reads words as "a3" (the block a, three wide), "b2@a" (one that
// stands on a) and "r4=b" (a row of b, four times).
func featuresTold(told string) []impl.Feature {
	var list []impl.Feature
	for _, word := range strings.Fields(told) {
		own, on, stands := strings.Cut(word, "@")
		own, of, repeats := strings.Cut(own, "=")
		name, number := own[:len(own)-1], int(own[len(own)-1]-'0')
		f := fill(name, box(0, 0, 0, number, 1, 1))
		if stands {
			f = stand(on, impl.SdTop, f)
		}
		if repeats {
			f = again(name, of, number, 0, 2, 0)
		}
		list = append(list, f)
	}
	return list
}

func editsTold(edits []impl.Edit) string {
	var words []string
	for _, e := range edits {
		sign := map[int]string{1: "+", 2: "-", 3: "~"}[e.Kind]
		words = append(words, sign+e.Name)
	}
	return strings.Join(words, " ")
}

func namesIn(lists ...[]impl.Feature) []string {
	var names []string
	for _, f := range slices.Concat(lists...) {
		names = append(names, f.Name)
	}
	slices.Sort(names)
	return slices.Compact(names)
}

func editNames(edits []impl.Edit) []string {
	var names []string
	for _, e := range edits {
		names = append(names, e.Name)
	}
	return names
}

// alikeIn: both lists have the same feature of that name, or neither has any.
func alikeIn(a, b []impl.Feature, name string) bool {
	f, inA := featureNamed(a, name)
	g, inB := featureNamed(b, name)
	return inA == inB && f == g
}

func byName(list []impl.Feature) []impl.Feature {
	return slices.SortedFunc(slices.Values(list), func(f, g impl.Feature) int { return strings.Compare(f.Name, g.Name) })
}

func alikeButForOrder(a, b []impl.Feature) bool { return slices.Equal(byName(a), byName(b)) }

// exactVersionsCode asks FeatureOrder, which has tests of its own.
func exactVersionsCode(lists ...[]impl.Feature) int {
	for _, list := range lists {
		if len(list) > 4096 {
			return impl.ErrLong
		}
	}
	for _, list := range lists {
		if _, code, _ := impl.FeatureOrder(list); code != impl.OK {
			return code
		}
	}
	return impl.OK
}

// exactEdits, exactMerge and exactApply do what the chapter says, name by name.
func exactEdits(base, late []impl.Feature) ([]impl.Edit, int) {
	if code := exactVersionsCode(base, late); code != impl.OK {
		return nil, code
	}
	var edits []impl.Edit
	for _, name := range namesIn(base, late) {
		_, inBase := featureNamed(base, name)
		_, inLate := featureNamed(late, name)
		switch {
		case !inBase:
			edits = append(edits, impl.Edit{Kind: 1, Name: name})
		case !inLate:
			edits = append(edits, impl.Edit{Kind: 2, Name: name})
		case !alikeIn(base, late, name):
			edits = append(edits, impl.Edit{Kind: 3, Name: name})
		}
	}
	return edits, impl.OK
}

func exactMerge(base, one, two []impl.Feature) ([]impl.Feature, int, []string) {
	if code := exactVersionsCode(base, one, two); code != impl.OK {
		return nil, code, nil
	}
	var clashing []string
	for _, name := range namesIn(base, one, two) {
		if !alikeIn(base, one, name) && !alikeIn(base, two, name) && !alikeIn(one, two, name) {
			clashing = append(clashing, name)
		}
	}
	if len(clashing) > 0 {
		return nil, impl.ErrState, clashing
	}
	var merged []impl.Feature
	for _, f := range base {
		whose := one
		if alikeIn(base, one, f.Name) {
			whose = two
		}
		if g, there := featureNamed(whose, f.Name); there {
			merged = append(merged, g)
		}
	}
	merged = slices.Concat(merged, notIn(one, base), notIn(two, slices.Concat(base, one)))
	if _, code, about := impl.FeatureOrder(merged); code != impl.OK {
		return nil, code, about
	}
	return merged, impl.OK, nil
}

func notIn(list, other []impl.Feature) []impl.Feature {
	return slices.DeleteFunc(slices.Clone(list), func(f impl.Feature) bool { return slices.Contains(namesIn(other), f.Name) })
}

func exactApply(base, late []impl.Feature, names []string) ([]impl.Feature, int) {
	if len(names) > 4096 {
		return nil, impl.ErrLong
	}
	if code := exactVersionsCode(base, late); code != impl.OK {
		return nil, code
	}
	for _, name := range names {
		if !slices.Contains(namesIn(base, late), name) {
			return nil, impl.ErrName
		}
	}
	var applied []impl.Feature
	for _, f := range base {
		if !slices.Contains(names, f.Name) {
			applied = append(applied, f)
		} else if g, there := featureNamed(late, f.Name); there {
			applied = append(applied, g)
		}
	}
	for _, f := range notIn(late, base) {
		if slices.Contains(names, f.Name) {
			applied = append(applied, f)
		}
	}
	if _, code, _ := impl.FeatureOrder(applied); code != impl.OK {
		return nil, impl.ErrState
	}
	return applied, impl.OK
}

// checkEdits holds edits against the words, and against those of the way back:
// what was added is dropped there, and what was dropped is added.
func checkEdits(t *testing.T, base, late []impl.Feature) []impl.Edit {
	t.Helper()
	edits, code := impl.Edits(base, late)
	want, wantCode := exactEdits(base, late)
	if !slices.Equal(edits, want) || code != wantCode {
		t.Error("Edits", short(base), short(late), edits, code, "not", want, wantCode)
	}
	back, backCode := impl.Edits(late, base)
	for i, e := range back {
		if e.Kind != impl.EdTurn {
			back[i].Kind = impl.EdAdd + impl.EdDrop - e.Kind
		}
	}
	if !slices.Equal(back, edits) || (code == impl.OK) != (backCode == impl.OK) {
		t.Error("Edits of the way back", short(base), short(late), back, backCode, "not", edits)
	}
	return edits
}

// checkMerge holds a merge against the words, and against that of the other way
// round, which is alike but for the order.
func checkMerge(t *testing.T, base, one, two []impl.Feature) ([]impl.Feature, int) {
	t.Helper()
	merged, code := checkMergeWords(t, base, one, two)
	other, otherCode := checkMergeWords(t, base, two, one)
	right := exactVersionsCode(base, one, two) == impl.OK
	if !alikeButForOrder(merged, other) || right && code != otherCode {
		t.Error("Merge the other way round", short(base), short(one), short(two), short(merged), code, short(other), otherCode)
	}
	return merged, code
}

func checkMergeWords(t *testing.T, base, one, two []impl.Feature) ([]impl.Feature, int) {
	t.Helper()
	merged, code, about := impl.Merge(base, one, two)
	want, wantCode, wantAbout := exactMerge(base, one, two)
	if !slices.Equal(merged, want) || code != wantCode || !slices.Equal(about, wantAbout) {
		t.Error("Merge", short(base), short(one), short(two), short(merged), code, about, "not", short(want), wantCode, wantAbout)
	}
	return merged, code
}

func checkApply(t *testing.T, base, late []impl.Feature, names []string) ([]impl.Feature, int) {
	t.Helper()
	applied, code := impl.Apply(base, late, names)
	want, wantCode := exactApply(base, late, names)
	if !slices.Equal(applied, want) || code != wantCode {
		t.Error("Apply", short(base), short(late), short(names), short(applied), code, "not", short(want), wantCode)
	}
	return applied, code
}

func checkEditsTold(t *testing.T, base, late, want string) {
	t.Helper()
	edits := checkEdits(t, featuresTold(base), featuresTold(late))
	if told := editsTold(edits); told != want {
		t.Errorf("Edits of %q and %q: %q, not %q", base, late, told, want)
	}
	checkEditsApplied(t, featuresTold(base), featuresTold(late))
}

func checkMergeTold(t *testing.T, base, one, two, want string) {
	t.Helper()
	merged, code := checkMerge(t, featuresTold(base), featuresTold(one), featuresTold(two))
	if code != impl.OK || !slices.Equal(merged, featuresTold(want)) {
		t.Errorf("Merge of %q, %q and %q: %v %d, not %q", base, one, two, merged, code, want)
	}
}

// checkNotMergedTold: there is that code, with just these names, and no list.
func checkNotMergedTold(t *testing.T, base, one, two string, code int, want string) {
	t.Helper()
	merged, got, about := impl.Merge(featuresTold(base), featuresTold(one), featuresTold(two))
	if len(merged) != 0 || got != code || strings.Join(about, " ") != want {
		t.Errorf("Merge of %q, %q and %q: %v %d %q, not %d %q", base, one, two, merged, got, about, code, want)
	}
	checkMerge(t, featuresTold(base), featuresTold(one), featuresTold(two))
}

// checkClash: the same names clash whichever version comes first.
func checkClash(t *testing.T, base, one, two, want string) {
	t.Helper()
	checkNotMergedTold(t, base, one, two, impl.ErrState, want)
	checkNotMergedTold(t, base, two, one, impl.ErrState, want)
}

func checkApplyTold(t *testing.T, base, late, names, want string) {
	t.Helper()
	applied, code := checkApply(t, featuresTold(base), featuresTold(late), strings.Fields(names))
	if code != impl.OK || !slices.Equal(applied, featuresTold(want)) {
		t.Errorf("Apply of %q to %q for %q: %v %d, not %q", late, base, names, applied, code, want)
	}
}

func checkNotApplied(t *testing.T, base, late, names string, code int) {
	t.Helper()
	applied, got := checkApply(t, featuresTold(base), featuresTold(late), strings.Fields(names))
	if len(applied) != 0 || got != code {
		t.Errorf("Apply of %q to %q for %q: %v %d, not %d", late, base, names, applied, got, code)
	}
}

// checkEditsApplied: of right versions, all edits that are applied come to the
// late one; so does a merge with what was not edited.
func checkEditsApplied(t *testing.T, base, late []impl.Feature) {
	t.Helper()
	edits, _ := impl.Edits(base, late)
	all := editNames(edits)
	whole, code := checkApply(t, base, late, all)
	if code != impl.OK || !alikeButForOrder(whole, late) {
		t.Error("all edits", short(base), short(late), short(whole), code)
	}
	for _, names := range [][]string{namesIn(base, late), slices.Concat(all, all), slices.Sorted(slices.Values(all))} {
		if again, code := impl.Apply(base, late, names); code != impl.OK || !slices.Equal(again, whole) {
			t.Error("all edits", short(base), short(late), names, short(again), code, "not", short(whole))
		}
	}
	if none, code := impl.Apply(base, late, nil); code != impl.OK || !slices.Equal(none, base) {
		t.Error("no edits", short(base), short(late), short(none), code)
	}
	for i, versions := range [][2][]impl.Feature{{base, late}, {late, base}, {late, late}, {late, whole}, {whole, late}} {
		merged, code, about := impl.Merge(base, versions[0], versions[1])
		if code != impl.OK || len(about) != 0 || !alikeButForOrder(merged, late) || i < 3 && !slices.Equal(merged, whole) {
			t.Error("Merge", i, short(base), short(late), short(merged), code, about, "not", short(whole))
		}
	}
}

// checkInTwoParts: what some of the edits come to has just the others left, and
// merges with what the others come to; it answers whether both parts can stand.
func checkInTwoParts(t *testing.T, base, late []impl.Feature, some, others []string) bool {
	t.Helper()
	half, code := checkApply(t, base, late, some)
	if code != impl.OK {
		return false
	}
	done, left := checkEdits(t, base, half), checkEdits(t, half, late)
	if !slices.Equal(editNames(done), some) || !slices.Equal(editNames(left), others) {
		t.Error("Apply", short(base), short(late), some, short(half), "did", done, "left", left)
	}
	end, code := checkApply(t, half, late, others)
	if code != impl.OK || !alikeButForOrder(end, late) {
		t.Error("Apply", short(base), short(late), some, "then", others, short(end), code)
	}
	rest, code := checkApply(t, base, late, others)
	if code != impl.OK {
		return false
	}
	merged, code := checkMerge(t, base, half, rest)
	if code != impl.OK || !alikeButForOrder(merged, late) {
		t.Error("Merge of both parts", short(base), short(half), short(rest), short(merged), code)
	}
	return true
}

// checkNoVersion: wherever such a list is handed in, there is that code alone.
func checkNoVersion(t *testing.T, list []impl.Feature, code int) {
	t.Helper()
	right := features("base", "x")
	for i := range 3 {
		given := [3][]impl.Feature{right, right, right}
		given[i] = list
		if merged, got, about := impl.Merge(given[0], given[1], given[2]); len(merged) != 0 || got != code || len(about) != 0 {
			t.Error("Merge", i, short(list), short(merged), got, about, "not", code)
		}
	}
	for i := range 2 {
		given := [2][]impl.Feature{right, right}
		given[i] = list
		if edits, got := impl.Edits(given[0], given[1]); len(edits) != 0 || got != code {
			t.Error("Edits", i, short(list), short(edits), got, "not", code)
		}
		for _, names := range [][]string{nil, {"x"}, {"no feature at all"}} {
			if applied, got := impl.Apply(given[0], given[1], names); len(applied) != 0 || got != code {
				t.Error("Apply", i, short(list), names, short(applied), got, "not", code)
			}
		}
	}
}

// versionsOfEachCode: a list that FeatureOrder has that code of, or is right.
func versionsOfEachCode() map[int][]impl.Feature {
	return map[int][]impl.Feature{
		impl.OK:       features("a", "b on a"),
		impl.ErrLong:  make([]impl.Feature, impl.MaxList+1),
		impl.ErrMany:  manyFeatures(31),
		impl.ErrBad:   make([]impl.Feature, 1),
		impl.ErrTwice: features("a", "a"),
		impl.ErrName:  features("a on b"),
		impl.ErrLoop:  features("a on b", "b on a"),
	}
}

// firstCode is the code that counts where lists of these codes are handed in.
func firstCode(codes ...int) int {
	if slices.Contains(codes, impl.ErrLong) {
		return impl.ErrLong
	}
	for _, code := range codes {
		if code != impl.OK {
			return code
		}
	}
	return impl.OK
}

// mergeCalls: calls of every function of the layer, right, at an edge and wrong.
func mergeCalls() []func() string {
	var calls []func() string
	tell := func(call func() string) { calls = append(calls, call) }
	lists := [][]impl.Feature{
		nil, features("a"), features("a", "b on a"), features("b", "a on b"), features("c", "a", "r of a"), featuresTold("b2 a3 c1"), manyFeatures(30), make([]impl.Feature, 1), features("a", "a"), features("a on b"), manyFeatures(31), manyFeatures(impl.MaxList + 1),
	}
	for _, base := range lists {
		for _, one := range lists {
			tell(func() string { return fmt.Sprint(impl.Edits(base, one)) })
			for _, two := range lists {
				tell(func() string { return fmt.Sprint(impl.Merge(base, one, two)) })
			}
			for _, names := range [][]string{nil, {"a"}, {"b", "a", "b"}, {"f3", "f2"}, {"a", ""}, make([]string, impl.MaxList+1)} {
				tell(func() string { return fmt.Sprint(impl.Apply(base, one, names)) })
			}
		}
	}
	return calls
}
