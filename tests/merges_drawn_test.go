package tests

import (
	"fmt"
	"math/rand"
	"slices"
	"strings"
	"sync"
	"testing"

	"loop.example/g00056/impl"
)

// smallVersions: all right lists of no, one or two of these features, no two of
// one name, in either order.
func smallVersions() [][]impl.Feature {
	words := []string{"a1", "a2", "a1@b", "a1=b", "b1", "b1@a", "b1=a", "c1"}
	var versions [][]impl.Feature
	add := func(told ...string) {
		list := featuresTold(strings.Join(told, " "))
		if _, code, _ := impl.FeatureOrder(list); code == impl.OK {
			versions = append(versions, list)
		}
	}
	add()
	for _, first := range words {
		add(first)
		for _, second := range words {
			add(first, second)
		}
	}
	return versions
}

func TestAllSmallVersions(t *testing.T) {
	versions := smallVersions()
	codes := map[int]int{}
	for _, base := range versions {
		for _, one := range versions {
			checkEdits(t, base, one)
			checkEditsApplied(t, base, one)
			for _, names := range [][]string{{"a"}, {"b"}, {"c"}, {"b", "a"}, {"c", "b"}, {"a", "c"}} {
				checkApply(t, base, one, names)
			}
			for _, two := range versions {
				_, code := checkMergeWords(t, base, one, two)
				codes[code]++
			}
		}
	}
	if codes[impl.OK] < 5000 || codes[impl.ErrState] < 5000 || codes[impl.ErrName] < 400 || codes[impl.ErrLoop] < 30 {
		t.Error("too few of some code", codes)
	}
}

// drawnEdits draws a late version of features: so many edits of names of a pool,
// at times in another order.
func drawnEdits(draw *rand.Rand, base []impl.Feature, pool []string, count int) []impl.Feature {
	late := slices.Clone(base)
	for range count {
		name := pool[draw.Intn(len(pool))]
		at := slices.IndexFunc(late, func(f impl.Feature) bool { return f.Name == name })
		if at >= 0 && draw.Intn(2) == 0 {
			late = slices.Delete(late, at, at+1)
			continue
		}
		f := drawnPooled(draw, name, pool)
		if at < 0 {
			late = slices.Insert(late, draw.Intn(len(late)+1), f)
		} else {
			late[at] = f
		}
	}
	if draw.Intn(3) == 0 {
		draw.Shuffle(len(late), func(i, j int) { late[i], late[j] = late[j], late[i] })
	}
	return late
}

func drawnPooled(draw *rand.Rand, name string, pool []string) impl.Feature {
	f := fill(name, box(0, 0, 0, 1+draw.Intn(2), 1, 1))
	other := pool[draw.Intn(len(pool))]
	switch draw.Intn(6) {
	case 0, 1:
		return stand(other, impl.SdTop, f)
	case 2:
		return again(name, other, 1+draw.Intn(2), 1, 0, 0)
	}
	return f
}

// rightEdits draws until FeatureOrder has no code of what was drawn, as long as
// that does not come to nothing.
func rightEdits(draw *rand.Rand, base []impl.Feature, pool []string, count int) []impl.Feature {
	for range 40 {
		late := drawnEdits(draw, base, pool, draw.Intn(count+1))
		if _, code, _ := impl.FeatureOrder(late); code == impl.OK {
			return late
		}
	}
	return base
}

func poolOf(count int) []string {
	var pool []string
	for i := range count {
		pool = append(pool, []string{"a", "b", "A", "_", "ж", "é", "aa", "a0"}[i%8]+strings.Repeat("1", i/8))
	}
	return pool
}

func TestDrawnMerges(t *testing.T) {
	draw := rand.New(rand.NewSource(211))
	codes := map[int]int{}
	for range 6000 {
		pool := poolOf(3 + draw.Intn(20))
		base := rightEdits(draw, nil, pool, 2*len(pool))
		if draw.Intn(8) == 0 {
			base = manyFeatures(impl.MaxFeatures - draw.Intn(8))
		}
		one, two := rightEdits(draw, base, pool, 2+len(pool)/4), rightEdits(draw, base, pool, 2+len(pool)/4)
		if draw.Intn(8) == 0 {
			two = drawnEdits(draw, base, pool, 4) // perhaps not right
		}
		_, code := checkMerge(t, base, one, two)
		codes[code]++
	}
	for _, code := range []int{impl.OK, impl.ErrState, impl.ErrName, impl.ErrLoop, impl.ErrMany} {
		if codes[code] < 20 {
			t.Error("too few of", code, codes)
		}
	}
}

func TestDrawnEditsAreApplied(t *testing.T) {
	draw := rand.New(rand.NewSource(212))
	stood, names := 0, 0
	for range 3000 {
		pool := poolOf(2 + draw.Intn(20))
		base := rightEdits(draw, nil, pool, 2*len(pool))
		late := rightEdits(draw, base, pool, 1+len(pool)/2)
		edits := editNames(checkEdits(t, base, late))
		checkEditsApplied(t, base, late)
		var some, others []string
		for _, name := range edits {
			if draw.Intn(2) == 0 {
				some = append(some, name)
			} else {
				others = append(others, name)
			}
		}
		if checkInTwoParts(t, base, late, some, others) && len(some) > 0 && len(others) > 0 {
			stood++
		}
		var any []string
		for range draw.Intn(5) {
			any = append(any, pool[draw.Intn(len(pool))])
		}
		if _, code := checkApply(t, base, late, any); code == impl.ErrName {
			names++
		}
		checkOneByOne(t, base, late, edits)
	}
	if stood < 500 || names < 100 {
		t.Error("too few were drawn:", stood, names)
	}
}

// Versions that edit different features, each what the other one leaves alone.
func TestDrawnVersionsThatEditDifferentFeatures(t *testing.T) {
	draw := rand.New(rand.NewSource(213))
	merges := 0
	for range 3000 {
		pool := poolOf(4 + draw.Intn(20))
		draw.Shuffle(len(pool), func(i, j int) { pool[i], pool[j] = pool[j], pool[i] })
		base := rightEdits(draw, nil, pool, 2*len(pool))
		half := len(pool) / 2
		one, two := rightEdits(draw, base, pool[:half], half), rightEdits(draw, base, pool[half:], half)
		merged, code := checkMerge(t, base, one, two)
		if code == impl.ErrState {
			t.Error("Merge", short(base), short(one), short(two), "clash")
		}
		if code != impl.OK {
			continue
		}
		// one's edits, then two's, or the other way round: each can stand, since the merged list can
		byOne, _ := impl.Edits(base, one)
		byTwo, _ := impl.Edits(base, two)
		behind, _ := impl.Edits(one, merged)
		if !slices.Equal(behind, byTwo) {
			t.Error("Merge", short(base), short(one), short(two), "behind one", behind, "not", byTwo)
		}
		there, code := checkApply(t, one, two, editNames(byTwo))
		back, backCode := checkApply(t, two, one, editNames(byOne))
		if code != impl.OK || !slices.Equal(there, mergedBehind(one, merged)) || backCode != impl.OK || !alikeButForOrder(back, merged) {
			t.Error("Apply", short(base), short(one), short(two), short(there), code, short(back), backCode, "not", short(merged))
		}
		if len(byOne) > 0 && len(byTwo) > 0 {
			merges++
		}
	}
	if merges < 500 {
		t.Error("too few were drawn:", merges)
	}
}

// mergedBehind is a merged list with one's features in their order.
func mergedBehind(one, merged []impl.Feature) []impl.Feature {
	var list []impl.Feature
	for _, f := range one {
		if g, there := featureNamed(merged, f.Name); there {
			list = append(list, g)
		}
	}
	return append(list, notIn(merged, one)...)
}

// mergesTold calls all functions, and spoils what they answer.
func mergesTold(base, one, two []impl.Feature, names []string) string {
	spoilt := fill("spoilt", unit)
	edits, code := impl.Edits(base, one)
	merged, mergedCode, about := impl.Merge(base, one, two)
	applied, appliedCode := impl.Apply(base, one, names)
	told := fmt.Sprint(edits, code, merged, mergedCode, about, applied, appliedCode)
	spoilAll(edits, impl.Edit{Kind: 77})
	spoilAll(merged, spoilt)
	spoilAll(about, "spoilt")
	spoilAll(applied, spoilt)
	return told
}

func TestMergeAnswersAreNewMemory(t *testing.T) {
	behind := fill("behind", unit)
	lists := [][]impl.Feature{nil, featuresTold("a1 b1@a r2=a"), featuresTold("b2 c1 a1"), featuresTold("a3"), features("a", "a"), features("a on b"), manyFeatures(30), make([]impl.Feature, 2), manyFeatures(impl.MaxList + 1)}
	copied := slices.Clone[[]impl.Feature]
	for _, base := range lists {
		for _, one := range lists {
			for _, names := range [][]string{nil, {"a", "b"}, {"b", "r", "c"}, {"x"}} {
				checkGiven(t, base, behind, func(list []impl.Feature) string {
					return mergesTold(list, copied(one), copied(one), slices.Clone(names))
				})
				checkGiven(t, one, behind, func(list []impl.Feature) string {
					return mergesTold(copied(base), list, copied(lists[1]), slices.Clone(names))
				})
				checkGiven(t, one, behind, func(list []impl.Feature) string {
					return mergesTold(copied(base), copied(lists[2]), list, slices.Clone(names))
				})
				checkGiven(t, base, behind, func(list []impl.Feature) string { return mergesTold(list, list, list, slices.Clone(names)) })
				checkGiven(t, names, "behind", func(names []string) string { return mergesTold(copied(base), copied(one), copied(lists[2]), names) })
			}
		}
	}
}

// Versions are merged side by side as they are one by one.
func TestMergesSideBySide(t *testing.T) {
	lists := [][]impl.Feature{nil, featuresTold("a1 b1@a r2=a"), featuresTold("b2 c1 a1"), featuresTold("a3 c2"), manyFeatures(30)}
	given := make([][3][]impl.Feature, 0, len(lists)*len(lists)*len(lists))
	for _, base := range lists {
		for _, one := range lists {
			for _, two := range lists {
				given = append(given, [3][]impl.Feature{base, one, two})
			}
		}
	}
	told := func(at int) string {
		v := given[at%len(given)]
		return mergesTold(v[0], v[1], v[2], namesIn(v[1]))
	}
	again := make([]string, 4*len(given))
	var workers sync.WaitGroup
	for i := range again {
		workers.Go(func() { again[i] = told(i) })
	}
	workers.Wait()
	for i, got := range again {
		if want := told(i); got != want {
			t.Error("side by side", short(given[i%len(given)]), got, "not", want)
		}
	}
}
