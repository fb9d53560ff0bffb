package tests

import (
	"bytes"
	"fmt"
	"math/rand"
	"slices"
	"strings"
	"testing"

	"loop.example/g00056/impl"
)

func TestFileSumsKnownByHand(t *testing.T) {
	for _, c := range []struct {
		b         []byte
		high, low int
	}{
		{nil, 0, 1}, {[]byte{}, 0, 1},
		{[]byte{0}, 1, 1}, {[]byte{1}, 2, 2}, {[]byte{7}, 8, 8}, {[]byte{249}, 250, 250}, {[]byte{250}, 0, 0}, {[]byte{251}, 1, 1}, {[]byte{252}, 2, 2}, {[]byte{255}, 5, 5},
		{[]byte{0, 0}, 2, 1}, {[]byte{1, 2}, 6, 4}, {[]byte{2, 1}, 7, 4}, {[]byte{250, 1}, 1, 1}, {[]byte{249, 1}, 250, 0}, {[]byte{250, 0}, 0, 0}, {[]byte{124, 0}, 250, 125}, {[]byte{125, 0}, 1, 126}, {[]byte{255, 255}, 14, 9},
		{[]byte{200, 200, 200}, 199, 99}, // a goes 201, 150, 99, and b 201, 100, 199
		{make([]byte, 250), 250, 1}, {make([]byte, 251), 0, 1}, {make([]byte, 252), 1, 1}, {make([]byte, 502), 0, 1},
	} {
		if n := impl.FileSum(c.b); n != 256*c.high+c.low {
			t.Error("FileSum", short(c.b), n/256, n%256, "not", c.high, c.low)
		}
	}
}

func TestFileSumsByPlaces(t *testing.T) {
	for first := range 256 {
		for second := range 256 {
			b := []byte{byte(first), byte(second)}
			if n := impl.FileSum(b); n != sumByPlaces(b) {
				t.Fatal("FileSum", b, n, "not", sumByPlaces(b))
			}
		}
	}
	draw := rand.New(rand.NewSource(201))
	for range 400 {
		b := make([]byte, draw.Intn(1000))
		draw.Read(b)
		if n := impl.FileSum(b); n != sumByPlaces(b) {
			t.Fatal("FileSum", b, n, "not", sumByPlaces(b))
		}
	}
	for _, one := range []byte{0, 1, 82, 250, 251, 255} {
		for _, count := range []int{impl.MaxText - 1, impl.MaxText} {
			b := bytes.Repeat([]byte{one}, count)
			if n := impl.FileSum(b); n != sumByPlaces(b) {
				t.Error("FileSum", one, count, n, "not", sumByPlaces(b))
			}
		}
		for _, count := range []int{impl.MaxText + 1, impl.MaxText + 2, 2 * impl.MaxText} {
			if n := impl.FileSum(bytes.Repeat([]byte{one}, count)); n != 0 {
				t.Error("FileSum of too many", one, count, n)
			}
		}
	}
}

// One changed byte is another sum, unless it changed by 251; so are two bytes
// that changed places.
func TestFileSumsTellChanges(t *testing.T) {
	body := bodyTold(fill("plate", box(0, 0, 0, 4, 3, 2)))
	for i := range body {
		for one := range 256 {
			other := slices.Clone(body)
			other[i] = byte(one)
			if alike := impl.FileSum(other) == impl.FileSum(body); alike != ((one-int(body[i]))%251 == 0) {
				t.Error("FileSum", body, other)
			}
		}
		for j := range i {
			other := slices.Clone(body)
			other[i], other[j] = other[j], other[i]
			if alike := impl.FileSum(other) == impl.FileSum(body); alike != (body[i] == body[j]) {
				t.Error("FileSum", body, other)
			}
		}
	}
}

// twoFeatures and their file, byte by byte; the sums are worked out by hand.
func twoFeatures() []impl.Feature {
	return []impl.Feature{fill("b", box(0, 0, 0, 1, 2, 3)), again("r", "b", 2, -1, 0, 0)}
}

func twoFile() []byte {
	return []byte{
		'P', 'A', 'R', 'T', 1,
		'R', 0, 16, 1, 0, 0, 100, 100, 100, 101, 102, 103, 100, 100, 100, 1, 0, 0, 'b', 3, 3,
		'R', 0, 17, 3, 0, 2, 100, 100, 100, 100, 100, 100, 99, 100, 100, 1, 0, 1, 'r', 'b', 137, 115,
		'E', 0, 2,
	}
}

func checkFileWritten(t *testing.T, list []impl.Feature, want []byte) {
	t.Helper()
	b, code := impl.FileBytes(list)
	if !bytes.Equal(b, want) || code != impl.OK {
		t.Error("FileBytes", list, b, code, "not", want)
	}
	back, code, at := impl.ReadFile(want)
	if !slices.Equal(back, list) || code != impl.OK || at != 0 {
		t.Error("ReadFile", want, back, code, at, "not", list)
	}
	if len(list) > 0 {
		checkSaved(t, want, 0, list...)
	}
}

func TestFilesByteByByte(t *testing.T) {
	checkFileWritten(t, nil, []byte("PART\x01E\x00\x00"))
	checkFileWritten(t, []impl.Feature{}, []byte{80, 65, 82, 84, 1, 69, 0, 0})
	checkFileWritten(t, twoFeatures()[:1], append(twoFile()[:26:26], 'E', 0, 1))
	checkFileWritten(t, twoFeatures(), twoFile())
	// a pocket that stands on a face, with a row ahead of what it does again
	checkFileWritten(t, []impl.Feature{again("Rö", "дом", 8, -24, 24, 5), fill("дом", box(-24, -3, -2, -1, 0, 24)), stand("Rö", impl.SdTop, empty("_9", box(23, 22, 21, 24, 23, 22)))}, fileTold(
		recordTold([]byte{3, 0, 8, 100, 100, 100, 100, 100, 100, 76, 124, 105, 3, 0, 6, 'R', 0xC3, 0xB6, 0xD0, 0xB4, 0xD0, 0xBE, 0xD0, 0xBC}),
		recordTold([]byte{1, 0, 0, 76, 97, 98, 99, 100, 124, 100, 100, 100, 6, 0, 0, 0xD0, 0xB4, 0xD0, 0xBE, 0xD0, 0xBC}),
		recordTold([]byte{2, 6, 0, 123, 122, 121, 124, 123, 122, 100, 100, 100, 2, 3, 0, '_', '9', 'R', 0xC3, 0xB6}),
	))
}

// Each number stands at a place of its own.
func TestFilesHaveEachNumberAtItsPlace(t *testing.T) {
	for side := impl.SdLeft; side <= impl.SdTop; side++ {
		f := stand("on", side, empty("name", box(-7, -8, -9, 10, 11, 12)))
		checkFileWritten(t, []impl.Feature{f, fill("on", unit)}, fileTold(
			recordTold(append([]byte{2, byte(side), 0, 93, 92, 91, 110, 111, 112, 100, 100, 100, 4, 2, 0}, "nameon"...)),
			recordTold(append([]byte{1, 0, 0, 100, 100, 100, 101, 101, 101, 100, 100, 100, 2, 0, 0}, "on"...)),
		))
	}
	for count := 1; count <= 8; count++ {
		f := again("name", "of", count, count, -count, 3*count)
		checkFileWritten(t, []impl.Feature{fill("of", unit), f}, fileTold(
			recordTold(append([]byte{1, 0, 0, 100, 100, 100, 101, 101, 101, 100, 100, 100, 2, 0, 0}, "of"...)),
			recordTold(append([]byte{3, 0, byte(count), 100, 100, 100, 100, 100, 100, byte(100 + count), byte(100 - count), byte(100 + 3*count), 4, 0, 2}, "nameof"...)),
		))
	}
}

// Features stand in the file as they stand in the list, not as they are done.
func TestFilesKeepTheOrderOfTheList(t *testing.T) {
	for _, list := range [][]impl.Feature{
		features("a on b", "b"), features("b", "a on b"), features("a on b", "b on c", "c", "d"), features("r of a", "s of a", "b on r", "a"), features("c", "b", "a"), features("e on a", "d on b", "c on a", "b on a", "a"),
	} {
		checkFileWritten(t, list, fileOf(list))
	}
}

func TestFilesByHowMany(t *testing.T) {
	for _, count := range []int{1, 2, 29, impl.MaxFeatures} {
		checkFileWritten(t, manyFeatures(count), fileOf(manyFeatures(count)))
	}
	longest := manyFeatures(impl.MaxFeatures)
	for i := range longest {
		longest[i].Name = fmt.Sprintf("%s%02d", strings.Repeat("a", impl.MaxName-2), i)
		if i > 0 {
			longest[i] = stand(longest[i-1].Name, impl.SdBack, longest[i])
		}
	}
	checkFileWritten(t, longest, fileOf(longest))
	b, _ := impl.FileBytes(longest)
	if len(b) != 5+30*(5+15+40)+29*40+3 || !bytes.HasSuffix(b, []byte{'E', 0, 30}) {
		t.Error("FileBytes", len(b), b[len(b)-3:])
	}
}

// checkNotWritten: no bytes are told with that code.
func checkNotWritten(t *testing.T, list []impl.Feature, code int) {
	t.Helper()
	if b, got := impl.FileBytes(list); len(b) != 0 || got != code {
		t.Error("FileBytes", short(list), short(b), got, "not", code)
	}
}

func TestFileBytesHasFeatureOrdersCodes(t *testing.T) {
	long := manyFeatures(impl.MaxList + 1)
	long[0].Name = ""
	for _, c := range []struct {
		list []impl.Feature
		code int
	}{
		{long, impl.ErrLong}, {manyFeatures(impl.MaxList + 1), impl.ErrLong}, {manyFeatures(impl.MaxList), impl.ErrMany}, {manyFeatures(31), impl.ErrMany}, {slices.Repeat(features("a"), 31), impl.ErrMany}, {make([]impl.Feature, 31), impl.ErrMany},
		{make([]impl.Feature, 1), impl.ErrBad}, {append(features("a", "a", "b on c", "d on d"), impl.Feature{}), impl.ErrBad}, {features("a", "9"), impl.ErrBad}, {features(strings.Repeat("a", 41)), impl.ErrBad}, {features(strings.Repeat("a", 256)), impl.ErrBad},
		{features("a", "b", "a", "c on nowhere"), impl.ErrTwice}, {features("d on d", "b on c"), impl.ErrName}, {features("a of b"), impl.ErrName}, {features("a", "b on b"), impl.ErrLoop}, {features("a on b", "b on a"), impl.ErrLoop},
	} {
		if _, code, _ := impl.FeatureOrder(c.list); code != c.code {
			t.Error("FeatureOrder", short(c.list), code, "not", c.code)
		}
		checkNotWritten(t, c.list, c.code)
	}
}

// Whatever number stands in whatever field: what is right is written and read as
// it was, all else is refused.
func TestFilesOfEachNumber(t *testing.T) {
	written, refused := 0, 0
	for _, right := range rightKinds {
		for field := range fieldCount {
			for _, n := range []int{least, least + 1, -1 << 32, -356, -256, -157, -156, -155, -132, -101, -100, -99, -25, -24, -23, -1, 0, 1, 2, 3, 4, 6, 7, 8, 9, 23, 24, 25, 99, 100, 101, 155, 156, 157, 255, 256, 257, 259, 1 << 32, 1<<32 + 1, greatest - 1, greatest} {
				list := []impl.Feature{fill("base", box(0, 0, 0, 4, 4, 4)), withNumber(right, field, n)}
				_, code, _ := impl.FeatureOrder(list)
				if code != impl.OK {
					checkNotWritten(t, list, code)
					refused++
					continue
				}
				checkFileWritten(t, list, fileOf(list))
				written++
			}
		}
	}
	if written < 200 || refused < 1000 {
		t.Error("too few of either", written, refused)
	}
}
