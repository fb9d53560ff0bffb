package tests

import (
	"fmt"
	"slices"
	"strings"
	"testing"

	"loop.example/g00056/impl"
)

func box(x0, y0, z0, x1, y1, z1 int) impl.Box {
	return impl.Box{X0: x0, Y0: y0, Z0: z0, X1: x1, Y1: y1, Z1: z1}
}

func fill(of string, b impl.Box) impl.Feature {
	return impl.Feature{Name: of, Kind: impl.FtBlock, Box: b}
}

func empty(of string, b impl.Box) impl.Feature {
	return impl.Feature{Name: of, Kind: impl.FtPocket, Box: b}
}

func again(name, of string, count, dx, dy, dz int) impl.Feature {
	return impl.Feature{Name: name, Kind: impl.FtRow, Of: of, Count: count, DX: dx, DY: dy, DZ: dz}
}

func stand(on string, side int, f impl.Feature) impl.Feature {
	f.On, f.Side = on, side
	return f
}

var unit = box(0, 0, 0, 1, 1, 1)

// features makes a list of lines as "a" (a block), "a on b" (a block that
// stands) and "a of b" (a row).
func features(lines ...string) []impl.Feature {
	var list []impl.Feature
	for _, line := range lines {
		words := strings.Fields(line)
		f := fill(words[0], unit)
		if len(words) == 3 && words[1] == "on" {
			f = stand(words[2], impl.SdTop, f)
		}
		if len(words) == 3 && words[1] == "of" {
			f = again(words[0], words[2], 1, 1, 0, 0)
		}
		list = append(list, f)
	}
	return list
}

func TestFeatureLimits(t *testing.T) {
	if impl.Grid != 24 || impl.MaxFeatures != 30 {
		t.Error("limits", impl.Grid, impl.MaxFeatures)
	}
	for want, got := range []int{0, impl.SdLeft, impl.SdRight, impl.SdFront, impl.SdBack, impl.SdBottom, impl.SdTop} {
		if got != want {
			t.Error("side", want, "is", got)
		}
	}
	for want, got := range []int{0, impl.FtBlock, impl.FtPocket, impl.FtRow} {
		if got != want {
			t.Error("kind", want, "is", got)
		}
	}
}

func TestFeatureOrder(t *testing.T) {
	for _, c := range []struct {
		list []impl.Feature
		want string
	}{
		{nil, ""},
		{[]impl.Feature{}, ""},
		{features("a"), "a"},
		{features("b", "a", "c"), "b a c"},
		{features("a on b", "b"), "b a"},
		{features("b", "a on b"), "b a"},
		{features("a on b", "b on c", "c"), "c b a"},
		{features("a on b", "b on c", "c", "d"), "c b a d"},
		{features("d", "a on b", "b on c", "c"), "d c b a"},
		{features("a on d", "b on d", "c", "d"), "c d a b"},
		{features("a on c", "b on d", "c", "d"), "c a d b"},
		{features("r of a", "a"), "a r"},
		{features("r of a", "s of a", "b on r", "a"), "a r s b"},
		{features("b on r", "s of a", "r of a", "a"), "a s r b"},
		{features("b on s", "s of a", "a", "c on b"), "a s b c"},
		{features("a", "b on a", "c on a", "d on b", "e on a"), "a b c d e"},
		{features("e on a", "d on b", "c on a", "b on a", "a"), "a e c b d"},
		{features("Größe on дом", "дом", "_"), "дом Größe _"},
	} {
		order, code, about := impl.FeatureOrder(c.list)
		if code != impl.OK || len(about) != 0 || strings.Join(order, " ") != c.want {
			t.Error(c.list, order, code, about, "not", c.want)
		}
	}
}

// short tells a value in at most some 300 bytes: lists may be long.
func short(v any) string {
	told := fmt.Sprint(v)
	return told[:min(len(told), 300)]
}

// checkRefused: every call answers that code, and names where it answers any.
func checkRefused(t *testing.T, list []impl.Feature, code int, about ...string) {
	t.Helper()
	if order, got, names := impl.FeatureOrder(list); len(order) != 0 || got != code || !slices.Equal(names, about) {
		t.Error("FeatureOrder", short(list), order, got, short(names), "not", code, short(about))
	}
	checkNotWritten(t, list, code)
	checkNoVersion(t, list, code)
	checkNotBuilt(t, list, nil, code, about...)
	checkNotBuilt(t, list, []string{"no feature at all"}, code, about...)
}

// checkNotBuilt: every call that builds a part answers that code.
func checkNotBuilt(t *testing.T, list []impl.Feature, off []string, code int, about ...string) {
	t.Helper()
	part, got, names := impl.Rebuild(list, off)
	if len(part.Order) != 0 || part.Volume != 0 || len(part.Faces) != 0 || got != code || !slices.Equal(names, about) {
		t.Error("Rebuild", short(list), "without", short(off), part, got, short(names), "not", code, short(about))
	}
	for _, side := range []int{impl.SdTop, 0, -1} {
		if face, got := impl.FaceOf(list, off, "a", side); face != (impl.Face{}) || got != code {
			t.Error("FaceOf", short(list), "without", short(off), face, got, "not", code)
		}
	}
	for _, z := range []int{0, -1, impl.Grid} {
		if rows, got := impl.Section(list, off, z); len(rows) != 0 || got != code {
			t.Error("Section", short(list), "without", short(off), rows, got, "not", code)
		}
	}
	checkNotPrinted(t, list, off, code)
}

func checkRightFeature(t *testing.T, f impl.Feature) {
	t.Helper()
	list := []impl.Feature{fill("base", box(0, 0, 0, 4, 4, 4)), f}
	if order, code, about := impl.FeatureOrder(list); code != impl.OK || len(about) != 0 || !slices.Equal(order, []string{"base", f.Name}) {
		t.Errorf("FeatureOrder with %v: %v %d %q", f, order, code, about)
	}
}

func checkWrongFeature(t *testing.T, f impl.Feature) {
	t.Helper()
	checkRefused(t, []impl.Feature{fill("base", box(0, 0, 0, 4, 4, 4)), f}, impl.ErrBad, f.Name)
}

// numberFields are the whole numbers of a feature, in order: Kind, Side, the
// six of Box, Count, DX, DY, DZ.
func numberFields(f *impl.Feature) []*int {
	b := &f.Box
	return []*int{&f.Kind, &f.Side, &b.X0, &b.Y0, &b.Z0, &b.X1, &b.Y1, &b.Z1, &f.Count, &f.DX, &f.DY, &f.DZ}
}

const (
	sideField  = 1
	countField = 8
	fieldCount = 12
)

func withNumber(f impl.Feature, field, number int) impl.Feature {
	*numberFields(&f)[field] = number
	return f
}

// rightNumbers tells, in the document's words, whether a feature's numbers are
// right; its texts are those of its kind.
func rightNumbers(f impl.Feature) bool {
	b := f.Box
	boxIsRight := b.X0 < b.X1 && b.Y0 < b.Y1 && b.Z0 < b.Z1
	for _, number := range []int{b.X0, b.Y0, b.Z0, b.X1, b.Y1, b.Z1} {
		boxIsRight = boxIsRight && number >= -24 && number <= 24
	}
	stepIsZero := f.DX == 0 && f.DY == 0 && f.DZ == 0
	switch f.Kind {
	case impl.FtBlock, impl.FtPocket:
		sideIsRight := f.Side == 0
		if f.On != "" {
			sideIsRight = f.Side >= 1 && f.Side <= 6
		}
		return f.Of == "" && sideIsRight && boxIsRight && f.Count == 0 && stepIsZero
	case impl.FtRow:
		for _, far := range []int{f.DX, f.DY, f.DZ} {
			if far < -24 || far > 24 {
				return false
			}
		}
		return f.Of != "" && f.On == "" && f.Side == 0 && b == impl.Box{} && f.Count >= 1 && f.Count <= 8 && !stepIsZero
	}
	return false
}

var rightKinds = []impl.Feature{
	fill("x", box(1, 1, 1, 2, 2, 2)),
	empty("x", box(1, 1, 1, 2, 2, 2)),
	stand("base", impl.SdTop, fill("x", box(-2, -2, -2, 2, 2, 2))),
	stand("base", impl.SdLeft, empty("x", box(-2, -2, -2, 2, 2, 2))),
	again("x", "base", 2, 1, 0, 0),
	again("x", "base", 2, 0, 1, 0),
	again("x", "base", 2, 0, 0, 1),
	again("x", "base", 8, -24, 24, -24),
}

func TestFeaturesByEachNumber(t *testing.T) {
	numbers := []int{least, least + 1, -1 << 32, -25, -24, -23, -2, -1, 0, 1, 2, 3, 4, 5, 6, 7, 8, 9, 23, 24, 25, 1 << 31, 1 << 32, 1<<32 + 1, greatest - 1, greatest}
	right, wrong := 0, 0
	for _, f := range rightKinds {
		checkRightFeature(t, f)
		for field := range fieldCount {
			for _, number := range numbers {
				changed := withNumber(f, field, number)
				if rightNumbers(changed) {
					right++
					checkRightFeature(t, changed)
				} else {
					wrong++
					checkWrongFeature(t, changed)
				}
			}
		}
	}
	if right < 300 || wrong < 1000 {
		t.Error("too few of one sort:", right, wrong)
	}
}

func TestFeaturesByTwoNumbers(t *testing.T) {
	numbers := []int{least, -25, -24, 0, 1, 6, 7, 8, 9, 24, 25, greatest}
	for _, f := range rightKinds {
		for field := range fieldCount {
			for second := range field {
				for _, number := range numbers {
					for _, other := range numbers {
						changed := withNumber(withNumber(f, field, number), second, other)
						code := impl.ErrBad
						if rightNumbers(changed) {
							code = impl.OK
						}
						if _, got, _ := impl.FeatureOrder([]impl.Feature{fill("base", unit), changed}); got != code {
							t.Fatal("FeatureOrder", changed, got, "not", code)
						}
					}
				}
			}
		}
	}
}

func TestFeaturesByTheirEdges(t *testing.T) {
	onBase := stand("base", impl.SdTop, fill("x", unit))
	row := again("x", "base", 1, 1, 0, 0)
	for _, f := range []impl.Feature{
		withNumber(onBase, sideField, 1), withNumber(onBase, sideField, 6),
		withNumber(row, countField, 1), withNumber(row, countField, 8),
		again("x", "base", 1, -24, 0, 0), again("x", "base", 1, 0, 24, 0), again("x", "base", 1, 0, 0, -24), again("x", "base", 1, 24, 24, 24), again("x", "base", 8, 0, 0, 1),
		fill("x", box(-24, -24, -24, 24, 24, 24)), fill("x", box(-24, -24, -24, -23, -23, -23)), empty("x", box(23, 23, 23, 24, 24, 24)),
	} {
		checkRightFeature(t, f)
	}
	for _, f := range []impl.Feature{
		withNumber(onBase, sideField, 0), withNumber(onBase, sideField, 7), withNumber(onBase, sideField, -1),
		withNumber(fill("x", unit), sideField, 1), withNumber(fill("x", unit), sideField, 6), withNumber(empty("x", unit), sideField, 1), withNumber(empty("x", unit), sideField, 7),
		withNumber(row, countField, 0), withNumber(row, countField, 9), withNumber(row, countField, -1),
		again("x", "base", 1, 0, 0, 0), again("x", "base", 1, -25, 0, 0), again("x", "base", 1, 1, 25, 0), again("x", "base", 1, 1, 1, -25), again("x", "base", 1, 1, 1, 25),
		fill("x", box(-25, 0, 0, 1, 1, 1)), fill("x", box(0, 0, 0, 25, 1, 1)), fill("x", box(0, -25, 0, 1, 1, 1)), fill("x", box(0, 0, 0, 1, 25, 1)), fill("x", box(0, 0, -25, 1, 1, 1)), fill("x", box(0, 0, 0, 1, 1, 25)),
		fill("x", box(1, 0, 0, 1, 1, 1)), fill("x", box(0, 1, 0, 1, 1, 1)), empty("x", box(0, 0, 1, 1, 1, 1)), empty("x", box(2, 0, 0, 1, 1, 1)), empty("x", impl.Box{}),
		fill("x", box(25, 0, 0, 26, 1, 1)), fill("x", box(-26, 0, 0, -25, 1, 1)),
		{Name: "x"}, {Name: "x", Box: unit}, {Name: "x", Kind: 4, Box: unit}, {Name: "x", Kind: -1, Box: unit}, {},
	} {
		checkWrongFeature(t, f)
	}
}

func TestFeaturesByTheirTexts(t *testing.T) {
	longest := strings.Repeat("n", impl.MaxName)
	for _, right := range []string{"y", "_9", "дом", longest} {
		checkRightFeature(t, fill(right, unit))
		list := []impl.Feature{fill(right, unit), stand(right, impl.SdTop, fill("x", unit)), again("r", right, 1, 1, 0, 0)}
		if order, code, _ := impl.FeatureOrder(list); code != impl.OK || !slices.Equal(order, []string{right, "x", "r"}) {
			t.Error(right, order, code)
		}
	}
	for _, wrong := range []string{"", " ", "9", "a b", "a-b", "\xff", "a\xff", "a×", longest + "n", strings.Repeat("n", impl.MaxText+1)} {
		for _, f := range rightKinds {
			f.Name = wrong
			checkWrongFeature(t, f)
		}
		if wrong == "" {
			continue
		}
		checkWrongFeature(t, stand(wrong, impl.SdTop, fill("x", unit)))
		checkWrongFeature(t, stand(wrong, impl.SdTop, empty("x", unit)))
		checkWrongFeature(t, again("x", wrong, 1, 1, 0, 0))
	}
	row := again("x", "base", 1, 1, 0, 0)
	for _, f := range []impl.Feature{
		again("x", "", 1, 1, 0, 0),
		stand("base", 0, row), stand("base", impl.SdTop, row), stand("", impl.SdTop, row), stand("9", 0, row),
		{Name: "x", Kind: impl.FtBlock, Of: "base", Box: unit}, {Name: "x", Kind: impl.FtPocket, Of: "base", Box: unit}, {Name: "x", Kind: impl.FtPocket, Of: "9", Box: unit},
		{Name: "x", Kind: impl.FtBlock, On: "base", Of: "base", Side: 1, Box: unit},
	} {
		checkWrongFeature(t, f)
	}
}

func TestFeatureFaultsInTheirOrder(t *testing.T) {
	bad := fill("bad", impl.Box{})
	for _, c := range []struct {
		list  []impl.Feature
		code  int
		about []string
	}{
		{append(features("a", "a", "b on c", "d on d"), bad), impl.ErrBad, []string{"bad"}},
		{[]impl.Feature{fill("one", impl.Box{}), bad}, impl.ErrBad, []string{"one"}},
		{[]impl.Feature{bad, fill("one", impl.Box{})}, impl.ErrBad, []string{"bad"}},
		{features("a", "b", "b", "a"), impl.ErrTwice, []string{"b"}},
		{features("a", "b", "a", "b"), impl.ErrTwice, []string{"a"}},
		{features("a", "a", "a"), impl.ErrTwice, []string{"a"}},
		{features("b on c", "d on d", "a", "a"), impl.ErrTwice, []string{"a"}},
		{features("a", "a of a"), impl.ErrTwice, []string{"a"}},
		{features("a on b"), impl.ErrName, []string{"a", "b"}},
		{features("a of b"), impl.ErrName, []string{"a", "b"}},
		{features("a on A", "b"), impl.ErrName, []string{"a", "A"}},
		{features("a", "b on c", "d on e"), impl.ErrName, []string{"b", "c"}},
		{features("a", "b of c", "d on e"), impl.ErrName, []string{"b", "c"}},
		{features("a", "b on c", "d of e"), impl.ErrName, []string{"b", "c"}},
		{features("a on a", "b on c"), impl.ErrName, []string{"b", "c"}},
		{features("a", "r of a", "s of r"), impl.ErrName, []string{"s", "r"}},
		{features("r of r"), impl.ErrName, []string{"r", "r"}},
		{features("r of s", "s of r"), impl.ErrName, []string{"r", "s"}},
		{features("a", "b on a", "r of b"), impl.ErrName, []string{"r", "b"}},
		{features("r of b", "b on r"), impl.ErrName, []string{"r", "b"}},
		{features("r of b", "b on c"), impl.ErrName, []string{"r", "b"}},
		{features("b on c", "r of b"), impl.ErrName, []string{"b", "c"}},
		{features("r of b", "b on b"), impl.ErrName, []string{"r", "b"}},
		{features("a on a"), impl.ErrLoop, []string{"a"}},
		{features("a on b", "b on a"), impl.ErrLoop, []string{"a", "b"}},
		{features("b on a", "a on b"), impl.ErrLoop, []string{"b", "a"}},
		{features("a on b", "b on c", "c on a"), impl.ErrLoop, []string{"a", "b", "c"}},
		{features("a on c", "b on a", "c on b"), impl.ErrLoop, []string{"a", "c", "b"}},
		{features("z", "x on b", "c on b", "b on c"), impl.ErrLoop, []string{"c", "b"}},
		{features("a on b", "b on c", "c on a", "d on e", "e on d"), impl.ErrLoop, []string{"d", "e"}},
		{features("a on b", "b on a", "c on d", "d on c"), impl.ErrLoop, []string{"a", "b"}},
		{features("c on d", "a on b", "d on c", "b on a"), impl.ErrLoop, []string{"c", "d"}},
		{features("a on d", "b on c", "c on b", "d on a"), impl.ErrLoop, []string{"a", "d"}},
		{features("b on c", "a on d", "d on a", "c on b"), impl.ErrLoop, []string{"b", "c"}},
		{features("a on b", "b on c", "c on a", "d on d", "e on e"), impl.ErrLoop, []string{"d"}},
		{features("a on b", "b on a", "c on d", "d on e", "e on c", "f on f"), impl.ErrLoop, []string{"f"}},
		{features("r of z", "y on r", "z", "x on y", "w on x", "v on v"), impl.ErrLoop, []string{"v"}},
	} {
		checkRefused(t, c.list, c.code, c.about...)
	}
}

func manyFeatures(count int) []impl.Feature {
	list := make([]impl.Feature, count)
	for i := range list {
		list[i] = fill(fmt.Sprint("f", i), unit)
	}
	return list
}

func TestFeaturesByHowMany(t *testing.T) {
	list := manyFeatures(30)
	for i := range 29 {
		list[i] = stand(list[i+1].Name, impl.SdTop, list[i])
	}
	order, code, _ := impl.FeatureOrder(list)
	if code != impl.OK || len(order) != 30 || order[0] != "f29" || order[29] != "f0" {
		t.Error("30 that stand on one another", order, code)
	}
	if part, code, _ := impl.Rebuild(manyFeatures(30), nil); code != impl.OK || len(part.Order) != 30 || part.Volume != 1 || len(part.Faces) != 6 {
		t.Error("30", part, code)
	}
	list[29] = stand("f0", impl.SdTop, list[29])
	if _, code, about := impl.FeatureOrder(list); code != impl.ErrLoop || len(about) != 30 || about[0] != "f0" || about[29] != "f29" {
		t.Error("a circle of 30", code, about)
	}
	for _, c := range []struct{ count, code int }{{31, impl.ErrMany}, {impl.MaxList, impl.ErrMany}, {impl.MaxList + 1, impl.ErrLong}, {2 * impl.MaxList, impl.ErrLong}} {
		list := manyFeatures(c.count)
		checkRefused(t, list, c.code)
		list[0].Name, list[1].Kind = "", 9
		checkRefused(t, list, c.code)
	}
}
