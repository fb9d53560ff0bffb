package tests

import (
	"slices"
	"strings"
	"testing"

	"loop.example/g00056/impl"
)

// faceKeys reads words as "a136": the sides 1, 3 and 6 of a.
func faceKeys(words string) []faceKey {
	var keys []faceKey
	for _, word := range strings.Fields(words) {
		for _, digit := range word[1:] {
			keys = append(keys, faceKey{word[:1], int(digit - '0')})
		}
	}
	return keys
}

// checkLasting: these references last, those do not, and there are no others.
func checkLasting(t *testing.T, v version, lasts, passes string) {
	t.Helper()
	lasting, passing := faceKeys(lasts), faceKeys(passes)
	for _, f := range v.list {
		for side := 0; side <= 7; side++ {
			want, wantCode := 0, impl.ErrNone
			if key := (faceKey{f.Name, side}); slices.Contains(lasting, key) {
				want, wantCode = 1, impl.OK
			} else if slices.Contains(passing, key) {
				wantCode = impl.OK
			}
			if got, code := impl.Lasting(v.list, v.off, f.Name, side); got != want || code != wantCode {
				t.Errorf("Lasting %v of %s %d: %d %d, not %d %d", v, f.Name, side, got, code, want, wantCode)
			}
		}
	}
	checkLastingByOracle(t, v)
}

// ownLeftOut goes from a feature to what it names, down to the first one.
func ownLeftOut(list []impl.Feature, own string, off []string) bool {
	for name := own; name != ""; {
		if slices.Contains(off, name) {
			return true
		}
		f, _ := featureNamed(list, name)
		name = f.On + f.Of // one of them is empty
	}
	return false
}

// checkLastingByOracle builds the part by its cells without each feature, and
// holds all references against these parts; it answers how many of those that
// are there last, and how many do not.
func checkLastingByOracle(t *testing.T, v version) (int, int) {
	t.Helper()
	whole := v.faces(t)
	parts := map[string][]impl.Face{} // those that can be built
	for _, f := range v.list {
		if deeds, code, _ := exactDeeds(v.list, append(slices.Clone(v.off), f.Name)); code == impl.OK {
			parts[f.Name] = facesByPlanes(deeds)
		}
	}
	lasting, passing := 0, 0
	for _, f := range v.list {
		for side := 0; side <= 7; side++ {
			want, wantCode := 0, impl.ErrNone
			if face, there := faceWith(whole, faceKey{f.Name, side}); there {
				wantCode = impl.OK
				if face.Pieces == 1 && staysInAll(v, parts, faceKey{f.Name, side}) {
					want = 1
					lasting++
				} else {
					passing++
				}
			}
			if got, code := impl.Lasting(v.list, v.off, f.Name, side); got != want || code != wantCode {
				t.Fatalf("Lasting %v of %s %d: %d %d, not %d %d", v, f.Name, side, got, code, want, wantCode)
			}
		}
	}
	return lasting, passing
}

func staysInAll(v version, parts map[string][]impl.Face, key faceKey) bool {
	for out, faces := range parts {
		if ownLeftOut(v.list, key.name, append(slices.Clone(v.off), out)) {
			continue
		}
		if face, there := faceWith(faces, key); !there || face.Pieces != 1 {
			return false
		}
	}
	return true
}

func TestLastingOfBlocks(t *testing.T) {
	bar := fill("a", box(0, 0, 0, 3, 1, 1))
	checkLasting(t, of(), "", "")
	checkLasting(t, of(bar), "a123456", "")
	checkLasting(t, of(bar, fill("b", box(5, 5, 5, 7, 7, 7))), "a123456 b123456", "")
	// beside one another: where they meet there is no face
	checkLasting(t, of(bar, fill("b", box(3, 0, 0, 5, 1, 1))), "a13456 b23456", "")
	checkLasting(t, of(bar, fill("b", box(0, 0, 1, 3, 1, 2))), "a12345 b12346", "")
	// at an edge of a face, and across it
	checkLasting(t, of(bar, fill("b", box(2, 0, 1, 3, 1, 2))), "a123456 b12346", "")
	checkLasting(t, of(bar, fill("b", box(1, 0, 1, 2, 1, 2))), "a12345 b12346", "a6")
	// over one another: the later one has what it filled, in two pieces as long as the earlier one is there
	checkLasting(t, of(fill("b", box(1, 0, 0, 2, 1, 1)), bar), "b3456 a12", "a3456")
	checkLasting(t, of(bar, fill("b", box(1, 0, 0, 2, 1, 1))), "a123456", "")
	// two covers: the face is in one piece with both and with neither, with one of them in two
	covers := of(bar, fill("b", box(1, 0, 1, 2, 1, 2)), fill("c", box(2, 0, 1, 3, 1, 2)))
	checkLasting(t, covers, "a12345 b1346 c2346", "a6")
	checkLasting(t, covers.without("b"), "a123456 c12346", "")
	checkLasting(t, covers.without("c"), "a12345 b12346", "a6")
	checkLasting(t, covers.without("b", "c"), "a123456", "")
	// a row of covers, one of which stands in the middle
	checkLasting(t, of(bar, fill("b", box(0, 0, 1, 1, 1, 2)), again("r", "b", 1, 1, 0, 0)), "a123456 b1346 r2346", "")
	checkLasting(t, of(bar, fill("b", box(2, 0, 1, 3, 1, 2)), again("r", "b", 1, -1, 0, 0), again("s", "b", 1, -2, 0, 0)), "a12345 b2346 r346 s1346", "")
	checkLasting(t, of(bar, fill("b", box(0, 0, 2, 1, 1, 3)), again("r", "b", 1, 1, 0, -1)), "a12345 b123456 r12346", "a6")
}

func TestLastingOfPockets(t *testing.T) {
	plate := fill("a", box(0, 0, 0, 4, 3, 2))
	slot := box(1, 0, 1, 2, 3, 2)
	// the slot's faces are there only since the plate stands around it
	checkLasting(t, of(plate, empty("p", slot)), "a12345", "a6 p125")
	checkLasting(t, of(plate, empty("p", slot)).without("p"), "a123456", "")
	checkLasting(t, of(plate, empty("p", slot)).without("a"), "", "")
	// on the plate the slot goes with it: what it hangs on is passed over
	on := stand("a", impl.SdTop, empty("p", boxMoved(slot, 0, 0, -2)))
	checkLasting(t, of(plate, on), "a12345 p125", "a6")
	checkLasting(t, of(on, plate), "a12345 p125", "a6")
	// at the edge it cuts no face in two; a hole leaves a ring in one piece
	checkLasting(t, of(plate, empty("p", box(3, 0, 1, 4, 3, 2))), "a123456", "p15")
	checkLasting(t, of(plate, empty("p", box(1, 1, 0, 2, 2, 2))), "a123456", "p1234")
	// a second plate behind the first keeps what the slot has in common with both
	back := fill("b", box(0, 3, 0, 4, 6, 2))
	checkLasting(t, of(plate, back, empty("p", box(1, 2, 1, 2, 4, 2))), "a12356 b12456 p125", "p34")
}

// The middle cell of a bar is e's, p's, and then b's: b's long faces are whole
// as long as the pocket is there, or e is not.
func TestLastingByWhatIsLeftOut(t *testing.T) {
	middle := box(1, 0, 0, 2, 1, 1)
	e, p, q, b := fill("e", middle), empty("p", middle), empty("q", middle), fill("b", box(0, 0, 0, 3, 1, 1))
	far := fill("f", box(9, 9, 9, 10, 10, 10))
	checkLasting(t, of(e, p, b), "b12", "b3456")
	checkLasting(t, of(e, p, b).without("e"), "b123456", "")
	checkLasting(t, of(e, p, b).without("e", "p"), "b123456", "")
	checkLasting(t, of(e, p, b).without("p"), "e3456 b12", "b3456")
	checkLasting(t, of(e, p, b).without("b"), "", "")
	checkLasting(t, of(p, e, b), "e3456 b12", "b3456")
	// with a second pocket one of the two may be left out
	checkLasting(t, of(e, p, q, b), "b123456", "")
	checkLasting(t, of(e, p, q, b).without("q"), "b12", "b3456")
	checkLasting(t, of(e, p, q, b).without("p"), "b12", "b3456")
	checkLasting(t, of(e, p, q, b).without("p", "q"), "e3456 b12", "b3456")
	// all of b is gone without its pocket, but not when one of two is left out
	over := fill("b", middle)
	checkLasting(t, of(e, p, over), "", "b123456")
	checkLasting(t, of(e, p, q, over), "b123456", "")
	checkLasting(t, of(e, p, q, over, far), "b123456 f123456", "")
	checkLasting(t, of(e, p, over).without("e"), "b123456", "")
	// so it is with as many names left out as a list has
	most := slices.Repeat([]string{"f"}, impl.MaxList)
	checkLasting(t, of(e, p, b, far).without(most...), "b12", "b3456")
	checkLasting(t, of(e, p, over, far).without(most...), "", "b123456")
	checkLasting(t, of(e, p, q, over, far).without(most...), "b123456", "")
	// when e is left out what stands on it is too
	tower := stand("e", impl.SdTop, fill("t", box(0, 0, 0, 1, 1, 3)))
	checkLasting(t, of(e, tower, fill("b", box(0, 0, 0, 3, 1, 1))), "e345 t12346 b12", "b3456")
}

func TestLastingWhereTheRestCanNotBeDone(t *testing.T) {
	e, p, b := fill("e", unit), empty("p", unit), fill("b", unit)
	// without p there is no face for x to stand on: so p is passed over
	x := stand("b", impl.SdTop, fill("x", box(0, 0, 0, 1, 1, 1)))
	checkLasting(t, of(e, p, b, x), "b12345 x12346", "")
	checkLasting(t, of(e, p, b, x).without("x"), "", "b123456")
	checkLasting(t, of(e, p, b, x).without("b"), "", "")
	// without c the bar's top is whole, and x comes to lie out of space
	bar, c := fill("a", box(0, 0, 0, 3, 1, 1)), fill("c", box(0, 0, 1, 1, 1, 2))
	below := stand("a", impl.SdTop, fill("x", box(-1, 0, 1, 1, 1, 2)))
	checkLasting(t, of(bar, c, below), "a123456 c1234 x123456", "")
	if _, code, _ := impl.Rebuild([]impl.Feature{bar, c, below}, []string{"c"}); code != impl.ErrRange {
		t.Error("x is to lie out of space", code)
	}
	// without c the second cover alone splits the top on which x is to stand
	d := fill("d", box(1, 0, 1, 2, 1, 2))
	on := stand("a", impl.SdTop, fill("x", box(0, 0, 1, 1, 1, 2)))
	checkLasting(t, of(bar, c, d, on), "a123456 c1346 d2346 x123456", "")
	if _, code, _ := impl.Rebuild([]impl.Feature{bar, c, d, on}, []string{"c"}); code != impl.ErrState {
		t.Error("x is to stand on two pieces", code)
	}
	checkLasting(t, of(bar, c, d, on).without("x"), "a12345 c1346 d2346", "a6")
	// another one that x does not hang on is still left out
	checkLasting(t, of(e, p, b, x, fill("g", box(5, 0, 0, 8, 1, 1)), fill("h", box(6, 0, 0, 7, 1, 2))), "b12345 x12346 g12345 h12346", "g6")
}

func TestLastingOfWhatHangsOnOthers(t *testing.T) {
	tower := of(stand("b", impl.SdTop, fill("c", unit)), stand("a", impl.SdTop, fill("b", unit)), fill("a", unit))
	checkLasting(t, tower, "a12345 b1234 c12346", "")
	checkLasting(t, tower.without("c"), "a12345 b12346", "")
	checkLasting(t, tower.without("b"), "a123456", "")
	checkLasting(t, tower.without("a"), "", "")
	rows := of(again("r", "a", 2, 2, 0, 0), fill("a", box(0, 0, 0, 1, 3, 1)), again("s", "a", 1, 1, 0, 0), stand("s", impl.SdTop, fill("b", box(-1, 0, 0, 4, 1, 1))))
	checkLasting(t, rows, "a13456 s3456 b123456", "r123456")
	// a row of pockets: what it does again is passed over for its own faces, the plate is not
	holes := of(fill("a", box(0, 0, 0, 6, 3, 1)), empty("p", box(1, 1, 0, 2, 2, 1)), again("r", "p", 1, 1, 0, 0))
	checkLasting(t, holes, "a123456", "p134 r234")
}

func TestLastingCodes(t *testing.T) {
	for code, wrong := range notBuilt() {
		for _, v := range wrong {
			for _, name := range []string{"a", "x", "", "no", "f0"} {
				for _, side := range []int{impl.SdTop, 0, 7, least} {
					if got, gotCode := impl.Lasting(v.list, v.off, name, side); got != 0 || gotCode != code {
						t.Error("Lasting", short(v), name, side, got, gotCode, "not", code)
					}
				}
			}
			long := strings.Repeat("a", impl.MaxText+1)
			if got, gotCode := impl.Lasting(v.list, v.off, long, impl.SdTop); got != 0 || gotCode != impl.ErrLong {
				t.Error("Lasting", short(v), "of a long name", got, gotCode)
			}
		}
	}
	pair := of(fill("a", unit), fill("b", box(0, 0, 1, 1, 1, 2)))
	for _, c := range []struct {
		v       version
		name    string
		side    int
		n, code int
	}{
		{pair, "a", impl.SdLeft, 1, impl.OK}, {pair, "b", impl.SdTop, 1, impl.OK},
		{pair, "a", impl.SdTop, 0, impl.ErrNone}, {pair, "b", impl.SdBottom, 0, impl.ErrNone},
		{pair.without("b"), "a", impl.SdTop, 1, impl.OK}, {pair.without("a"), "b", impl.SdBottom, 1, impl.OK},
		{pair.without("a"), "a", impl.SdLeft, 0, impl.ErrNone}, {pair.without("a", "b"), "a", impl.SdLeft, 0, impl.ErrNone},
		{pair, "a", 0, 0, impl.ErrNone}, {pair, "a", 7, 0, impl.ErrNone}, {pair, "a", -1, 0, impl.ErrNone}, {pair, "a", least, 0, impl.ErrNone}, {pair, "a", greatest, 0, impl.ErrNone}, {pair, "a", 1<<32 + 1, 0, impl.ErrNone},
		{pair, "", impl.SdLeft, 0, impl.ErrNone}, {pair, "A", impl.SdLeft, 0, impl.ErrNone}, {pair, "a ", impl.SdLeft, 0, impl.ErrNone}, {pair, "\xff", impl.SdLeft, 0, impl.ErrNone},
		{of(), "a", impl.SdLeft, 0, impl.ErrNone}, {of(), "", 0, 0, impl.ErrNone}, {of(empty("a", unit)), "a", impl.SdLeft, 0, impl.ErrNone},
		{pair, strings.Repeat("a", impl.MaxText), impl.SdLeft, 0, impl.ErrNone}, {pair, strings.Repeat("a", impl.MaxText+1), impl.SdLeft, 0, impl.ErrLong}, {of(), strings.Repeat("a", impl.MaxText+1), 0, 0, impl.ErrLong},
		{pair.without(slices.Repeat([]string{"b"}, impl.MaxList)...), "a", impl.SdTop, 1, impl.OK}, {pair.without(slices.Repeat([]string{"b"}, impl.MaxList+1)...), "a", impl.SdTop, 0, impl.ErrLong},
		{version{list: manyFeatures(30)}, "f0", impl.SdTop, 1, impl.OK}, {version{list: manyFeatures(30)}, "f1", impl.SdTop, 0, impl.ErrNone}, {version{list: manyFeatures(30)}.without("f0"), "f1", impl.SdTop, 1, impl.OK},
	} {
		if n, code := impl.Lasting(c.v.list, c.v.off, c.name, c.side); n != c.n || code != c.code {
			t.Error("Lasting", short(c.v), short(c.name), c.side, n, code, "not", c.n, c.code)
		}
	}
}

func TestDepends(t *testing.T) {
	hung := features("e on a", "d on b", "c on a", "b on a", "a", "z")
	rowed := features("b on r", "s of a", "r of a", "a", "c on b", "d on s")
	for _, c := range []struct {
		list       []impl.Feature
		name, want string
	}{
		{features("a"), "a", "a"},
		{features("a", "b", "c"), "b", "b"},
		{features("a on b", "b"), "a", "a"},
		{features("a on b", "b"), "b", "b a"},
		{features("b", "a on b"), "b", "b a"},
		{features("d", "a on b", "b on c", "c"), "c", "c b a"},
		{features("d", "a on b", "b on c", "c"), "b", "b a"},
		{features("d", "a on b", "b on c", "c"), "d", "d"},
		{hung, "a", "a e c b d"},
		{hung, "b", "b d"},
		{hung, "c", "c"},
		{hung, "z", "z"},
		{rowed, "a", "a s r b c d"},
		{rowed, "r", "r b c"},
		{rowed, "s", "s d"},
		{rowed, "b", "b c"},
		{rowed, "c", "c"},
		{features("Größe on дом", "ж of _", "дом", "_", "é on ж"), "дом", "дом Größe"},
		{features("Größe on дом", "ж of _", "дом", "_", "é on ж"), "_", "_ ж é"},
		{features("a on d", "b on d", "c", "d"), "d", "d a b"},
	} {
		got, code := impl.Depends(c.list, c.name)
		if code != impl.OK || strings.Join(got, " ") != c.want {
			t.Error("Depends", c.list, c.name, got, code, "not", c.want)
		}
	}
	// it is not asked whether the features can be done
	for _, list := range [][]impl.Feature{
		{fill("a", box(-1, 0, 0, 1, 1, 1)), stand("a", impl.SdTop, fill("b", unit))},
		{empty("a", unit), stand("a", impl.SdTop, fill("b", unit))},
		{fill("a", unit), stand("a", impl.SdTop, fill("b", box(0, 0, 0, 24, 24, 24)))},
	} {
		if got, code := impl.Depends(list, "a"); code != impl.OK || !slices.Equal(got, []string{"a", "b"}) {
			t.Error("Depends", list, got, code)
		}
	}
}

func TestDependsOfAllOrOne(t *testing.T) {
	list := manyFeatures(30)
	for _, f := range list {
		if got, code := impl.Depends(list, f.Name); code != impl.OK || !slices.Equal(got, []string{f.Name}) {
			t.Error("Depends of", f.Name, got, code)
		}
	}
	for i := range 29 {
		list[i] = stand(list[i+1].Name, impl.SdTop, list[i])
	}
	order, _, _ := impl.FeatureOrder(list)
	for i, name := range order {
		if got, code := impl.Depends(list, name); code != impl.OK || !slices.Equal(got, order[i:]) {
			t.Error("Depends of", name, got, code)
		}
	}
}

func TestDependsCodes(t *testing.T) {
	long := strings.Repeat("a", impl.MaxText+1)
	for _, c := range []struct {
		list []impl.Feature
		name string
		code int
	}{
		{nil, "a", impl.ErrNone}, {nil, "", impl.ErrNone}, {[]impl.Feature{}, "a", impl.ErrNone},
		{features("a"), "b", impl.ErrNone}, {features("a"), "", impl.ErrNone}, {features("a"), "A", impl.ErrNone}, {features("a"), "aa", impl.ErrNone}, {features("a"), "a\x00", impl.ErrNone}, {features("дом"), "до", impl.ErrNone},
		{features("a"), strings.Repeat("a", impl.MaxText), impl.ErrNone}, {features("a"), long, impl.ErrLong}, {nil, long, impl.ErrLong},
		{features("a on b"), "a", impl.ErrName}, {features("a on b"), "b", impl.ErrName}, {features("a of b"), "c", impl.ErrName}, {features("a", "b on a", "r of b"), "a", impl.ErrName}, {features("a on b"), long, impl.ErrLong},
		{features("a", "b", "a"), "b", impl.ErrTwice}, {features("a", "a"), "c", impl.ErrTwice}, {features("a", "a"), long, impl.ErrLong},
		{features("a on b", "b on a", "c"), "c", impl.ErrLoop}, {features("a on a"), "b", impl.ErrLoop}, {features("a on a"), long, impl.ErrLong},
		{append(features("a"), fill("b", impl.Box{})), "a", impl.ErrBad}, {[]impl.Feature{{}}, "", impl.ErrBad}, {[]impl.Feature{{}}, long, impl.ErrLong},
		{manyFeatures(30), "f30", impl.ErrNone}, {manyFeatures(31), "f0", impl.ErrMany}, {manyFeatures(31), "no", impl.ErrMany}, {manyFeatures(31), long, impl.ErrLong},
		{manyFeatures(impl.MaxList), "f0", impl.ErrMany}, {manyFeatures(impl.MaxList + 1), "f0", impl.ErrLong}, {manyFeatures(impl.MaxList + 1), long, impl.ErrLong}, {make([]impl.Feature, impl.MaxList+1), "", impl.ErrLong},
	} {
		if got, code := impl.Depends(c.list, c.name); len(got) != 0 || code != c.code {
			t.Error("Depends", short(c.list), short(c.name), got, code, "not", c.code)
		}
	}
}
