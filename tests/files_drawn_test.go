package tests

import (
	"bytes"
	"fmt"
	"math/rand"
	"slices"
	"strings"
	"sync"
	"testing"

	"loop.example/g00056/impl"
)

// drawnName: of any length, with letters of two bytes; the number makes it the
// only one of its kind.
func drawnName(draw *rand.Rand, number int) string {
	name := strings.Repeat("n", draw.Intn(6)) + strings.Repeat("д", draw.Intn(4)) + strings.Repeat("R", draw.Intn(3)) + fmt.Sprint("_", number)
	if draw.Intn(5) == 0 {
		name += strings.Repeat("x", impl.MaxName-len(name))
	}
	return name
}

// drawnHistory: right features, though they may be none that can be built.
func drawnHistory(draw *rand.Rand, count int) []impl.Feature {
	var list, plain []impl.Feature
	for i := range count {
		f := fill(drawnName(draw, i), drawing{}.box(draw, -impl.Grid, impl.Grid))
		f.Kind = []int{impl.FtBlock, impl.FtPocket}[draw.Intn(2)]
		switch {
		case i > 0 && draw.Intn(3) == 0:
			f = stand(list[draw.Intn(i)].Name, 1+draw.Intn(6), f)
		case len(plain) > 0 && draw.Intn(3) == 0:
			f = again(f.Name, plain[draw.Intn(len(plain))].Name, 1+draw.Intn(8), draw.Intn(49)-24, draw.Intn(49)-24, 1+draw.Intn(24))
		default:
			plain = append(plain, f)
		}
		list = append(list, f)
	}
	draw.Shuffle(len(list), func(i, j int) { list[i], list[j] = list[j], list[i] })
	return list
}

func TestDrawnFilesAreReadAsTheyWere(t *testing.T) {
	draw := rand.New(rand.NewSource(202))
	for range 3000 {
		list := drawnHistory(draw, draw.Intn(impl.MaxFeatures+1))
		checkFileWritten(t, list, fileOf(list))
	}
}

// What is read is built and printed as what was laid down.
func TestDrawnFilesAreTheSameParts(t *testing.T) {
	draw := rand.New(rand.NewSource(203))
	built := 0
	for range 150 {
		list := drawing{corner: draw.Intn(8), reach: 2 + draw.Intn(6), count: 1 + draw.Intn(8)}.features(draw)
		b, code := impl.FileBytes(list)
		back, backCode, _ := impl.ReadFile(b)
		if code != impl.OK || backCode != impl.OK {
			t.Fatal("files of", list, code, backCode)
		}
		off := drawnOff(draw, list)
		part, code, about := impl.Rebuild(list, off)
		other, otherCode, otherAbout := impl.Rebuild(back, off)
		if code != otherCode || !slices.Equal(about, otherAbout) || !samePart(part, other) || printed(version{list, off}) != printed(version{back, off}) {
			t.Fatal("another part", list, back, off)
		}
		if code == impl.OK {
			built++
		}
	}
	if built < 50 {
		t.Error("too few parts were built:", built)
	}
}

// All that one byte can do, at each place of a file.
func TestFilesWithOneByteSpoilt(t *testing.T) {
	seen := map[int]int{}
	for _, list := range [][]impl.Feature{nil, twoFeatures(), {fill("R", unit), stand("R", impl.SdTop, fill("E", unit))}} {
		file := fileOf(list)
		for at := range len(file) + 1 {
			for one := range 256 {
				code, _ := checkRead(t, slices.Insert(slices.Clone(file), at, byte(one)))
				seen[code]++
				if at < len(file) && byte(one) != file[at] {
					code, place := checkRead(t, withByte(file, at, byte(one)))
					seen[code]++
					checkFoundNear(t, file, at, code, place)
				}
			}
			if at < len(file) {
				code, _ := checkRead(t, slices.Delete(slices.Clone(file), at, at+1))
				seen[code]++
			}
		}
	}
	if seen[impl.ErrForm] < 1000 || seen[impl.ErrSum] < 10000 {
		t.Error("seen", seen)
	}
}

// checkFoundNear: no byte ahead of the record, or of the end, in which one is
// spoilt is told.
func checkFoundNear(t *testing.T, file []byte, at, code, place int) {
	t.Helper()
	from := 0
	for next := len(fileHead); next <= at; next += 5 + 256*int(file[next+1]) + int(file[next+2]) {
		from = next
		if file[next] == 'E' {
			break
		}
	}
	if (code == impl.ErrForm || code == impl.ErrSum) && place < from {
		t.Error("ReadFile", file, "spoilt at", at, code, place, "ahead of", from)
	}
}

// Bytes that are 251 apart alone can pass for each other.
func TestFilesWithOneByteSpoiltAreNeverRight(t *testing.T) {
	for _, list := range [][]impl.Feature{nil, twoFeatures(), threeFeatures()} {
		file := fileOf(list)
		for at := range file {
			for one := range 256 {
				apart := one - int(file[at])
				if apart == 0 || apart%251 == 0 {
					continue
				}
				if list, code, _ := impl.ReadFile(withByte(file, at, byte(one))); code == impl.OK || len(list) != 0 {
					t.Error("ReadFile", file, "with", one, "at", at, list, code)
				}
			}
		}
	}
}

// spoiltFile: one of many things is done to the bytes.
func spoiltFile(draw *rand.Rand, b []byte) []byte {
	b = slices.Clone(b)
	if len(b) == 0 {
		return []byte{82}
	}
	at, other := draw.Intn(len(b)), draw.Intn(len(b))
	low, high := min(at, other), max(at, other)
	switch draw.Intn(8) {
	case 0:
		return withByte(b, at, byte(draw.Intn(256)))
	case 1:
		return slices.Insert(b, at, []byte{82, 69, 0, 1, byte(draw.Intn(256))}[draw.Intn(5)])
	case 2:
		return slices.Delete(b, low, min(high, low+3))
	case 3:
		return b[:at]
	case 4:
		return b[at:]
	case 5:
		return joined(b, b[low:high])
	case 6:
		return slices.Insert(b, at, slices.Clone(b[low:high])...)
	}
	b[at], b[other] = b[other], b[at]
	return b
}

func TestDrawnFilesSpoilt(t *testing.T) {
	draw := rand.New(rand.NewSource(204))
	seen := map[int]int{}
	saved := 0
	for range 20000 {
		b := fileOf(drawnHistory(draw, draw.Intn(6)))
		for range 1 + draw.Intn(3) {
			b = spoiltFile(draw, b)
		}
		code, _ := checkRead(t, b)
		seen[code]++
		list, _, _ := impl.Repair(b)
		saved += len(list)
	}
	if seen[impl.ErrForm] < 1000 || seen[impl.ErrSum] < 1000 || saved < 5000 {
		t.Error("seen", seen, saved)
	}
}

// drawnRecord: its sum is right, and its bytes are such as a feature's, but for
// some.
func drawnRecord(draw *rand.Rand) []byte {
	f := impl.Feature{Name: drawnText(draw), On: drawnText(draw), Of: drawnText(draw), Kind: draw.Intn(4), Side: draw.Intn(7), Count: draw.Intn(9)}
	for i := 2; i < 12; i++ {
		if i != countField {
			f = withNumber(f, i, draw.Intn(49)-24)
		}
	}
	body := bodyTold(f)
	switch draw.Intn(4) {
	case 0:
		body[draw.Intn(len(body))] = byte(draw.Intn(256))
	case 1:
		body[draw.Intn(leastBody)] += byte(draw.Intn(3) - 1)
	}
	return recordTold(body)
}

func drawnText(draw *rand.Rand) string {
	return []string{"", "a", "b", "name", "R", "E\x00\x01", string(recordTold(bodyTold(impl.Feature{Name: "in"}))), strings.Repeat("z", 255)}[draw.Intn(8)]
}

func TestDrawnRecords(t *testing.T) {
	draw := rand.New(rand.NewSource(205))
	seen := map[int]int{}
	for range 20000 {
		var records [][]byte
		for range draw.Intn(4) {
			records = append(records, drawnRecord(draw))
		}
		b := fileTold(records...)
		if draw.Intn(3) == 0 {
			b = spoiltFile(draw, b)
		}
		code, _ := checkRead(t, b)
		seen[code]++
	}
	if seen[impl.ErrForm] < 1000 || seen[impl.ErrSum] < 100 || seen[impl.ErrBad] < 1000 || seen[impl.OK] < 1000 {
		t.Error("seen", seen)
	}
}

func TestDrawnBytes(t *testing.T) {
	draw := rand.New(rand.NewSource(206))
	for range 20000 {
		b := make([]byte, draw.Intn(120))
		for i := range b {
			b[i] = []byte{82, 69, 0, 0, 1, 2, 16, 100, byte(draw.Intn(256))}[draw.Intn(9)]
		}
		if draw.Intn(2) == 0 {
			b = append([]byte(fileHead), b...)
		}
		checkRead(t, b)
	}
	for range 4 {
		b := make([]byte, impl.MaxText)
		draw.Read(b)
		checkRead(t, b)
		b = bytes.Repeat([]byte{82, 0, byte(draw.Intn(256))}, impl.MaxText/3)
		checkRead(t, append(b, fileOf(nil)...)[:impl.MaxText])
	}
}

// filesTold calls all functions, and spoils what they answer.
func filesTold(list []impl.Feature, b []byte) string {
	file, code := impl.FileBytes(list)
	read, readCode, at := impl.ReadFile(b)
	saved, lost, savedCode := impl.Repair(b)
	told := fmt.Sprint(impl.FileSum(b), file, code, read, readCode, at, saved, lost, savedCode)
	spoilAll(file, 77)
	spoilAll(read, impl.Feature{Name: "spoilt"})
	spoilAll(saved, impl.Feature{Name: "spoilt"})
	return told
}

func TestFileAnswersAreNewMemory(t *testing.T) {
	for _, list := range [][]impl.Feature{nil, twoFeatures(), threeFeatures(), manyFeatures(30), manyFeatures(31), make([]impl.Feature, 2), manyFeatures(impl.MaxList + 1)} {
		for _, b := range [][]byte{nil, twoFile(), fileOf(threeFeatures()), fileOf(manyFeatures(30)), twoFile()[:40], twoFile()[3:], make([]byte, impl.MaxText+1), []byte(fileHead)} {
			checkGiven(t, list, impl.Feature{Name: "behind"}, func(list []impl.Feature) string { return filesTold(list, b) })
			checkGiven(t, b, 77, func(b []byte) string { return filesTold(list, b) })
		}
	}
	// texts are their own, too
	b := twoFile()
	read, _, _ := impl.ReadFile(b)
	saved, _, _ := impl.Repair(b)
	spoilAll(b, 'x')
	if !slices.Equal(read, twoFeatures()) || !slices.Equal(saved, twoFeatures()) {
		t.Error("what was read hangs on the bytes", read, saved)
	}
}

// Files are read side by side as they are one by one.
func TestFilesReadSideBySide(t *testing.T) {
	given := [][]byte{nil, twoFile(), fileOf(threeFeatures()), twoFile()[:40], twoFile()[3:], fileOf(manyFeatures(30)), withByte(twoFile(), 24, 9)}
	first := make([]string, len(given))
	for i, b := range given {
		first[i] = filesTold(threeFeatures(), b)
	}
	again := make([]string, 8*len(given))
	var workers sync.WaitGroup
	for i := range again {
		workers.Go(func() { again[i] = filesTold(threeFeatures(), given[i%len(given)]) })
	}
	workers.Wait()
	for i, told := range again {
		if told != first[i%len(given)] {
			t.Error("side by side", short(given[i%len(given)]), told, "not", first[i%len(given)])
		}
	}
}

// fileCalls: calls of every function of the layer, right, at an edge and wrong.
func fileCalls() []func() string {
	var calls []func() string
	tell := func(call func() string) { calls = append(calls, call) }
	for _, list := range [][]impl.Feature{nil, twoFeatures(), threeFeatures(), features("a on b", "b"), features("a", "a"), features("a on a"), features("a of b"), make([]impl.Feature, 1), manyFeatures(30), manyFeatures(31), manyFeatures(impl.MaxList + 1)} {
		tell(func() string { return fmt.Sprint(impl.FileBytes(list)) })
		file := fileOf(list)
		for _, b := range [][]byte{file, file[:len(file)-1], file[4:], append(slices.Clone(file), 0), withByte(file, len(file)-1, 99), withByte(file, len(file)/2, 82)} {
			tell(func() string { return fmt.Sprint("FileSum ", impl.FileSum(b)) })
			tell(func() string { return fmt.Sprint(impl.ReadFile(b)) })
			tell(func() string { return fmt.Sprint(impl.Repair(b)) })
		}
	}
	return calls
}
