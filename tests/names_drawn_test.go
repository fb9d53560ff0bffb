package tests

import (
	"fmt"
	"math/rand"
	"slices"
	"strings"
	"testing"

	"loop.example/g00056/impl"
)

// edited draws a late version of features: one of them moved, made greater,
// smaller or another kind, taken away or put in, or the list in another order.
func edited(draw *rand.Rand, list []impl.Feature, d drawing) []impl.Feature {
	late := slices.Clone(list)
	f := &late[draw.Intn(len(late))]
	switch draw.Intn(7) {
	case 0:
		if f.Kind != impl.FtRow {
			f.Box = boxMoved(f.Box, draw.Intn(3)-1, draw.Intn(3)-1, draw.Intn(3)-1)
		}
	case 1:
		if f.Kind != impl.FtRow {
			f.Box.X1, f.Box.Y1 = f.Box.X1+1, f.Box.Y1+draw.Intn(2)
		}
	case 2:
		if f.Kind == impl.FtRow {
			f.Count = 1 + draw.Intn(4)
		} else if f.Box.Z1-f.Box.Z0 > 1 {
			f.Box.Z1--
		}
	case 3:
		if f.Kind != impl.FtRow {
			f.Kind = impl.FtBlock + impl.FtPocket - f.Kind
		}
	case 4:
		return without(list, []string{f.Name})
	case 5:
		late = append(late, fill("new", d.box(draw, d.corner, d.corner+d.reach)))
		late[len(late)-1].Kind += draw.Intn(2)
	default:
		draw.Shuffle(len(late), func(i, j int) { late[i], late[j] = late[j], late[i] })
	}
	return late
}

func drawnVersions(draw *rand.Rand) (version, version) {
	d := drawing{corner: []int{0, 0, 8, 18}[draw.Intn(4)], reach: 2 + draw.Intn(4), count: 2 + draw.Intn(7)}
	old := version{list: d.features(draw)}
	late := version{list: edited(draw, old.list, d)}
	if draw.Intn(3) == 0 {
		old.off = drawnOff(draw, old.list)
	}
	if draw.Intn(3) == 0 {
		late.off = drawnOff(draw, late.list)
	}
	return old, late
}

// Rebuild and its faces are held against the cells by tests of their own.
func TestDrawnVersions(t *testing.T) {
	draw := rand.New(rand.NewSource(11))
	whats, codes := map[int]int{}, map[int]int{}
	for range 3000 {
		old, late := drawnVersions(draw)
		before, oldCode, _ := impl.Rebuild(old.list, old.off)
		now, lateCode, _ := impl.Rebuild(late.list, late.off)
		var want []impl.Trace
		wantCode := oldCode
		if oldCode == impl.OK {
			wantCode = lateCode
		}
		if wantCode == impl.OK {
			want = exactTraces(before.Faces, now.Faces)
		}
		got, code := follow(old, late)
		if code != wantCode || !slices.Equal(got, want) {
			t.Fatalf("Follow %v to %v: %v %d, not %v %d", old, late, got, code, want, wantCode)
		}
		codes[code]++
		for _, trace := range got {
			whats[trace.What]++
		}
		if back, backCode := follow(late, old); code == impl.OK && backCode == impl.OK {
			checkBothWays(t, got, back)
		} else if (code == impl.OK) != (backCode == impl.OK) {
			t.Fatal("one way alone", old, late, code, backCode)
		}
	}
	for what := same; what <= came; what++ {
		if whats[what] < 50 {
			t.Error("too few were drawn:", whats)
		}
	}
	for _, code := range []int{impl.OK, impl.ErrNone, impl.ErrState, impl.ErrRange} {
		if codes[code] < 20 {
			t.Error("too few were drawn:", codes)
		}
	}
}

func TestDrawnVersionsByTheirCells(t *testing.T) {
	draw := rand.New(rand.NewSource(12))
	for checked := 0; checked < 60; {
		old, late := drawnVersions(draw)
		if _, code := follow(old, late); code != impl.OK {
			continue
		}
		checkFollowByOracle(t, old, late)
		checked++
	}
}

func TestDrawnReferencesByTheirCells(t *testing.T) {
	draw := rand.New(rand.NewSource(13))
	lasting, passing := 0, 0
	for checked := 0; checked < 120; {
		v, _ := drawnVersions(draw)
		if _, code, _ := impl.Rebuild(v.list, v.off); code != impl.OK {
			continue
		}
		last, pass := checkLastingByOracle(t, v)
		lasting, passing = lasting+last, passing+pass
		checked++
	}
	if lasting < 200 || passing < 200 {
		t.Error("too few were drawn:", lasting, passing)
	}
}

// A reference that lasts, lasts: it is held against FaceOf and Depends alone,
// with more features than by the cells.
func TestReferencesThatLastLast(t *testing.T) {
	draw := rand.New(rand.NewSource(14))
	seen := [2]int{}
	for range 150 {
		d := drawing{corner: 4, reach: 2 + draw.Intn(5), count: 2 + draw.Intn(11)}
		v := version{list: d.features(draw)}
		v.off = drawnOff(draw, v.list)
		part, code, _ := impl.Rebuild(v.list, v.off)
		if code != impl.OK {
			if n, got := impl.Lasting(v.list, v.off, v.list[0].Name, 1); n != 0 || got != code {
				t.Fatal("Lasting", v, n, got, "not", code)
			}
			continue
		}
		for _, face := range part.Faces {
			want := 0
			if face.Pieces == 1 && len(breakers(v, face)) == 0 {
				want = 1
			}
			if got, code := impl.Lasting(v.list, v.off, face.Feature, face.Side); got != want || code != impl.OK {
				t.Fatal("Lasting", v, face, got, code, "not", want, breakers(v, face))
			}
			seen[want]++
		}
	}
	if seen[0] < 200 || seen[1] < 200 {
		t.Error("too few were drawn:", seen)
	}
}

// breakers are the features without which the face is gone or falls apart.
func breakers(v version, face impl.Face) []string {
	var names []string
	for _, f := range v.list {
		hanging, _ := impl.Depends(v.list, f.Name)
		if slices.Contains(hanging, face.Feature) {
			continue
		}
		got, code := impl.FaceOf(v.list, append([]string{f.Name}, v.off...), face.Feature, face.Side)
		if code == impl.ErrNone {
			_, code, _ = impl.Rebuild(v.list, append([]string{f.Name}, v.off...)) // it may be of what could not be done
		}
		if code == impl.OK && got.Pieces != 1 {
			names = append(names, f.Name)
		}
	}
	return names
}

func TestDrawnDepends(t *testing.T) {
	draw := rand.New(rand.NewSource(15))
	seen := map[int]int{}
	for range 2000 {
		d := drawing{corner: 0, reach: 3, count: 1 + draw.Intn(12), wrong: draw.Intn(2) == 0}
		list := d.features(draw)
		draw.Shuffle(len(list), func(i, j int) { list[i], list[j] = list[j], list[i] })
		order, wantCode, _ := exactOrder(list)
		for _, f := range list {
			var want []string
			rest := without(list, []string{f.Name})
			for _, name := range order {
				if _, stays := featureNamed(rest, name); !stays {
					want = append(want, name)
				}
			}
			got, code := impl.Depends(list, f.Name)
			if code != wantCode || !slices.Equal(got, want) {
				t.Fatal("Depends", list, f.Name, got, code, "not", want, wantCode)
			}
			if part, code, _ := impl.Rebuild(list, []string{f.Name}); code == impl.OK && len(part.Order)+len(got) != len(list) {
				t.Fatal("Depends", list, f.Name, got, "but done were", part.Order)
			}
		}
		if wantCode == impl.OK {
			wantCode = impl.ErrNone
		}
		if got, code := impl.Depends(list, "nowhere"); len(got) != 0 || code != wantCode {
			t.Fatal("Depends", list, got, code, "not", wantCode)
		}
		seen[wantCode]++
	}
	for _, code := range []int{impl.ErrNone, impl.ErrName, impl.ErrLoop} {
		if seen[code] < 20 {
			t.Error("too few were drawn:", seen)
		}
	}
}

func TestNameAnswersAreNewMemory(t *testing.T) {
	behind := fill("behind", box(77, 77, 77, 77, 77, 77))
	for _, right := range [][]impl.Feature{
		nil, features("a"), features("a", "a"), features("b on a", "a", "c on b"), {fill("a", box(0, 0, 0, 3, 1, 1)), empty("b", box(1, 0, 0, 2, 1, 1))},
	} {
		for _, out := range [][]string{nil, {"a"}, {"b", "b"}} {
			array := append(slices.Clone(right), behind, behind, behind)
			offArray := append(slices.Clone(out), "behind", "behind", "behind")
			list, off := array[:len(right)], offArray[:len(out)]
			all := func() string {
				there, code := impl.Follow(list, off, list, nil)
				back, backCode := impl.Follow(list, nil, list, off)
				lasts, lastCode := impl.Lasting(list, off, "a", impl.SdLeft)
				hanging, hangCode := impl.Depends(list, "a")
				told := fmt.Sprint(there, code, back, backCode, lasts, lastCode, hanging, hangCode)
				for _, traces := range [][]impl.Trace{there, back} {
					for i := range traces[:cap(traces)] {
						traces[:cap(traces)][i] = impl.Trace{Feature: "spoilt"}
					}
				}
				for i := range hanging[:cap(hanging)] {
					hanging[:cap(hanging)][i] = "spoilt"
				}
				return told
			}
			first := all()
			if again := all(); again != first {
				t.Error("answers share memory", right, out, first, again)
			}
			if !slices.Equal(array, append(slices.Clone(right), behind, behind, behind)) || !slices.Equal(offArray, append(slices.Clone(out), "behind", "behind", "behind")) {
				t.Error("an argument was changed", right, out, array, offArray)
			}
		}
	}
}

// nameCalls: calls of every function of the layer, right, at an edge and wrong.
func nameCalls() []func() string {
	var calls []func() string
	tell := func(call func() string) { calls = append(calls, call) }
	versions := []version{
		of(), {list: []impl.Feature{{}}}, {list: features("a"), off: []string{"no"}}, {list: features("b on r", "r of a", "c on b", "a")}, {list: manyFeatures(30)}, {list: manyFeatures(31)}, {list: manyFeatures(impl.MaxList + 1)},
		of(fill("a", box(0, 0, 0, 9, 9, 9)), empty("p", box(1, 1, 1, 2, 9, 9)), again("r", "p", 3, 2, 0, 0), stand("p", impl.SdBottom, fill("b", unit))),
		of(fill("a", box(0, 0, 0, 9, 9, 8)), empty("p", box(1, 0, 1, 2, 9, 9)), fill("é", box(20, 20, 20, 21, 21, 21))).without("é"),
		{list: features("a"), off: slices.Repeat([]string{"a"}, impl.MaxList+1)}, of(again("a", "a", greatest, least, greatest, 0)),
	}
	for _, v := range versions {
		for _, other := range versions {
			tell(func() string { return fmt.Sprint(follow(v, other)) })
		}
		for _, name := range []string{"a", "p", "", "no", strings.Repeat("a", impl.MaxText+1)} {
			tell(func() string { return fmt.Sprint(impl.Depends(v.list, name)) })
			for _, side := range []int{least, -1, 0, 1, 6, 7, greatest} {
				tell(func() string { return fmt.Sprint(impl.Lasting(v.list, v.off, name, side)) })
			}
		}
	}
	return calls
}
