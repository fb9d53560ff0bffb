package tests

import (
	"bytes"
	"slices"
	"strings"
	"testing"

	"loop.example/g00056/impl"
)

func withByte(b []byte, at int, one byte) []byte {
	other := slices.Clone(b)
	other[at] = one
	return other
}

func TestFilesCutBehindEachByte(t *testing.T) {
	list := append(twoFeatures(), stand("r", impl.SdLeft, empty("third", unit)))
	for _, list := range [][]impl.Feature{nil, list[:1], list[:2], list} {
		file := fileOf(list)
		for length := range file {
			checkFault(t, file[:length], impl.ErrForm, length)
			whole, behind := 0, len(fileHead)
			for _, record := range recordsTold(list) {
				if behind+len(record) <= length {
					whole++
					behind += len(record)
				}
			}
			checkSaved(t, file[:length], length-behind, list[:whole]...)
		}
		if code, _ := checkRead(t, file); code != impl.OK {
			t.Error("ReadFile", file, code)
		}
	}
}

func TestFileHeads(t *testing.T) {
	file := twoFile()
	for i := range fileHead {
		for one := range 256 {
			if byte(one) != file[i] {
				checkFault(t, withByte(file, i, byte(one)), impl.ErrForm, i)
				checkFault(t, withByte(file, i, byte(one))[:i+1], impl.ErrForm, i)
			}
		}
	}
	checkFault(t, nil, impl.ErrForm, 0)
	checkFault(t, []byte{}, impl.ErrForm, 0)
	checkFault(t, []byte("part\x01E\x00\x00"), impl.ErrForm, 0)
	checkFault(t, []byte("PaRt\x01E\x00\x00"), impl.ErrForm, 1)
	checkFault(t, []byte("PART"), impl.ErrForm, 4)
	checkFault(t, []byte("PART1E\x00\x00"), impl.ErrForm, 4)
	checkFault(t, []byte(fileHead), impl.ErrForm, 5)
	checkFault(t, append([]byte(" "), file...), impl.ErrForm, 0)
	checkFault(t, file[1:], impl.ErrForm, 0)
}

// Where a record or the end could stand, neither does.
func TestFilesWithAnotherMark(t *testing.T) {
	file := twoFile()
	for one := range 256 {
		for _, at := range []int{5, 26, 48} {
			if one != 'R' && one != 'E' {
				checkFault(t, withByte(file, at, byte(one)), impl.ErrForm, at)
				checkFault(t, withByte(file, at, byte(one))[:at+1], impl.ErrForm, at)
			}
		}
	}
	checkFault(t, withByte(file, 5, 'E'), impl.ErrForm, 5)   // an end of 16 records
	checkFault(t, withByte(file, 26, 'E'), impl.ErrForm, 26) // of 17
	checkFault(t, withByte(file, 48, 'R'), impl.ErrForm, 51) // a record of 2 bytes
	checkFault(t, slices.Insert(file, 5, 'r'), impl.ErrForm, 5)
	checkFault(t, slices.Insert(twoFile(), 26, 0), impl.ErrForm, 26)
	checkFault(t, slices.Insert(twoFile(), 48, 'T'), impl.ErrForm, 48)
}

func TestFileEnds(t *testing.T) {
	for _, list := range [][]impl.Feature{nil, twoFeatures()[:1], twoFeatures(), manyFeatures(30)} {
		file := fileOf(list)
		end := len(file) - 3
		checkFault(t, file[:end], impl.ErrForm, end)
		checkFault(t, file[:end+1], impl.ErrForm, end+1)
		checkFault(t, file[:end+2], impl.ErrForm, end+2)
		for _, number := range []int{0, 1, 2, 3, 29, 30, 31, 255, 256, 256 + len(list), 256 * len(list), 512, 65535} {
			if number == len(list) {
				continue
			}
			other := append(file[:end+1:end+1], highLow(number)...)
			checkFault(t, other, impl.ErrForm, end)
			// and more behind it: the 69 is ahead of that
			checkFault(t, append(slices.Clone(other), 0), impl.ErrForm, end)
			checkFault(t, append(slices.Clone(other), file[5:]...), impl.ErrForm, end)
			// one of its bytes is missing: it is no number yet
			checkFault(t, other[:end+2], impl.ErrForm, end+2)
		}
		for _, behind := range []string{"\x00", "\n", "E", "R", "E\x00", "E\x00\x00", string(file), string(file[5:]), string(file[5:end]) + "x", strings.Repeat("x", 1000)} {
			checkFault(t, append(slices.Clone(file), behind...), impl.ErrForm, len(file))
		}
	}
}

// Records of each length, with bytes that are nothing.
func TestRecordsByLength(t *testing.T) {
	for n := range 40 {
		for _, body := range [][]byte{make([]byte, n), bytes.Repeat([]byte{100}, n), bytes.Repeat([]byte{82}, n)} {
			right := recordTold(body)
			checkFault(t, fileTold(right), impl.ErrForm, 5)
			checkFault(t, fileTold(twoRecord(0), right), impl.ErrForm, 26)
			spoilt := slices.Clone(right)
			spoilt[len(spoilt)-1]++
			checkFault(t, fileTold(spoilt), impl.ErrSum, 5+3+n)
			checkFault(t, fileTold(twoRecord(0), spoilt), impl.ErrSum, 26+3+n)
		}
	}
	// of 15 bytes: nothing but numbers, and three texts of no bytes
	bare := bodyTold(impl.Feature{})
	checkFault(t, fileTold(recordTold(bare)), impl.ErrBad, 0)
	checkFault(t, fileTold(recordTold(bare[:14])), impl.ErrForm, 5)
	checkFault(t, fileTold(recordTold(nil)), impl.ErrForm, 5)
	checkFault(t, fileTold([]byte{82, 0, 0, 0, 2}), impl.ErrSum, 8)
	checkFault(t, fileTold([]byte{82, 0, 0, 0, 1}), impl.ErrForm, 5)
	// the last one has its sum just at the end; what is longer ends too early
	for _, length := range []int{39, 40, 41} {
		checkFault(t, withLength(length), impl.ErrSum, 8+length)
	}
	for _, length := range []int{42, 43, 44, 256 + 16, 0x1000, 65534, 65535} {
		checkFault(t, withLength(length), impl.ErrForm, 51)
	}
	// a length of 65535 goes beyond all bytes that may be handed in
	for _, length := range []int{0x1000, impl.MaxText - 11, impl.MaxText - 10} {
		filled := append(withLength(length), make([]byte, impl.MaxText-51)...)
		checkFault(t, filled, impl.ErrSum, 8+length)
	}
	for _, length := range []int{impl.MaxText - 9, 65534, 65535} {
		filled := append(withLength(length), make([]byte, impl.MaxText-51)...)
		checkFault(t, filled, impl.ErrForm, impl.MaxText)
	}
}

// withLength: the first record's length is another one.
func withLength(length int) []byte {
	file := twoFile()
	copy(file[6:], highLow(length))
	return file
}

func twoRecord(number int) []byte { return recordsTold(twoFeatures())[number] }

// Each of the bytes that are numbers, with each value.
func TestRecordsByEachByte(t *testing.T) {
	right := fill("x", unit)
	for i := range 12 {
		for one := range 256 {
			body := withByte(bodyTold(right), i, byte(one))
			fits := one >= 76 && one <= 124
			if i < 3 {
				fits = one <= []int{3, 6, 8}[i]
			}
			file := fileTold(recordTold(body))
			code, at := checkRead(t, file)
			if (code == impl.ErrForm) == fits || code == impl.ErrForm && at != 5 || code != impl.ErrForm && at != 0 {
				t.Error("ReadFile", i, one, code, at)
			}
			behind := fileTold(twoRecord(0), recordTold(body), []byte("nothing"))
			if code, at := checkRead(t, behind); fits && (code != impl.ErrForm || at != 26+21) || !fits && (code != impl.ErrForm || at != 26) {
				t.Error("ReadFile", i, one, code, at)
			}
			// of a spoilt sum nothing else is told
			spoilt := recordTold(body)
			spoilt[len(spoilt)-2]++
			checkFault(t, fileTold(spoilt), impl.ErrSum, 5+3+16)
			spoilt = recordTold(body)
			spoilt[len(spoilt)-1]--
			checkFault(t, fileTold(spoilt), impl.ErrSum, 5+3+16)
		}
	}
}

func TestRecordsByTheirEdges(t *testing.T) {
	check := func(number int, one byte, code int) {
		t.Helper()
		place := 0
		if code == impl.ErrForm {
			place = 5
		}
		file := fileTold(recordTold(withByte(bodyTold(fill("x", unit)), number, one)))
		if code == impl.OK {
			if list, code, at := impl.ReadFile(file); len(list) != 1 || code != impl.OK || at != 0 {
				t.Error("ReadFile", number, one, list, code, at)
			}
			return
		}
		checkFault(t, file, code, place)
	}
	const kind, side, count, x0, x1, dx = 0, 1, 2, 3, 6, 9
	check(kind, 0, impl.ErrBad)
	check(kind, 1, impl.OK)
	check(kind, 2, impl.OK)
	check(kind, 3, impl.ErrBad)
	check(kind, 4, impl.ErrForm)
	check(side, 6, impl.ErrBad)
	check(side, 7, impl.ErrForm)
	check(count, 8, impl.ErrBad)
	check(count, 9, impl.ErrForm)
	check(x0, 0, impl.ErrForm)   // -100
	check(x0, 200, impl.ErrForm) // 100
	check(x0, 75, impl.ErrForm)
	check(x0, 76, impl.OK)
	check(x1, 124, impl.OK)
	check(x1, 125, impl.ErrForm)
	check(dx, 75, impl.ErrForm)
	check(dx, 76, impl.ErrBad)
	check(dx, 124, impl.ErrBad)
	check(dx, 125, impl.ErrForm)
	check(dx, 255, impl.ErrForm)
}

// The three lengths, each of which may say more or less than there is.
func TestRecordsByTheirTexts(t *testing.T) {
	texts := "nameonof"
	for _, lengths := range [][3]byte{
		{8, 0, 0}, {0, 8, 0}, {0, 0, 8}, {4, 2, 2}, {3, 3, 2}, {7, 0, 0}, {9, 0, 0}, {0, 7, 0}, {0, 9, 0}, {0, 0, 7}, {0, 0, 9}, {4, 2, 1}, {4, 2, 3}, {4, 1, 2}, {4, 3, 2}, {3, 2, 2}, {5, 2, 2}, {0, 0, 0}, {255, 255, 255}, {255, 5, 4}, {4, 255, 5}, {8, 255, 1}, {128, 128, 8}, {255, 0, 0}, {8, 8, 8},
	} {
		body := bodyTold(impl.Feature{Kind: impl.FtBlock, Box: unit})
		copy(body[12:], lengths[:])
		body = append(body, texts...)
		file := fileTold(recordTold(body))
		fill := int(lengths[0]) + int(lengths[1]) + int(lengths[2])
		code, at := checkRead(t, file)
		if filled := fill == len(texts); filled && (code == impl.ErrForm || at != 0) || !filled && (code != impl.ErrForm || at != 5) {
			t.Error("ReadFile", lengths, code, at)
		}
		spoilt := recordTold(body)
		spoilt[len(spoilt)-1]++
		checkFault(t, fileTold(spoilt), impl.ErrSum, 5+3+len(body))
	}
}

func TestRecordsByTheirNames(t *testing.T) {
	for _, c := range []struct {
		name string
		code int
	}{
		{"a", impl.OK}, {strings.Repeat("a", impl.MaxName), impl.OK}, {strings.Repeat("д", impl.MaxName/2), impl.OK},
		{"", impl.ErrBad}, {"9", impl.ErrBad}, {"a b", impl.ErrBad}, {"\x00", impl.ErrBad}, {"\xff\xfe", impl.ErrBad}, {strings.Repeat("a", impl.MaxName+1), impl.ErrBad}, {strings.Repeat("a", 255), impl.ErrBad},
	} {
		f := fill(c.name, unit)
		file := fileOf([]impl.Feature{f})
		if c.code == impl.OK {
			checkFileWritten(t, []impl.Feature{f}, file)
		} else {
			checkFault(t, file, c.code, 0)
		}
		checkSaved(t, file, 0, f)
		longest := impl.Feature{Name: c.name, On: strings.Repeat("o", 255), Of: strings.Repeat("\xff", 255), Kind: 3, Side: 6, Count: 8}
		checkFault(t, fileOf([]impl.Feature{longest}), impl.ErrBad, 0)
		checkSaved(t, fileOf([]impl.Feature{longest}), 0, longest)
	}
}

func TestFileSumsThatAreOthers(t *testing.T) {
	file := twoFile()
	for one := range 256 {
		for _, at := range []int{24, 25, 46, 47} {
			if other := withByte(file, at, byte(one)); !bytes.Equal(other, file) {
				checkFault(t, other, impl.ErrSum, at/2*2)
			}
		}
	}
	for _, at := range []int{24, 46} {
		turned := slices.Clone(file)
		turned[at], turned[at+1] = turned[at+1]^255, turned[at]^255
		checkFault(t, turned, impl.ErrSum, at)
	}
	// 251 more is another sum, though it is as much round 251
	checkFault(t, withByte(file, 24, 3+251), impl.ErrSum, 24)
	checkFault(t, withByte(file, 25, 3+251), impl.ErrSum, 24)
}

func TestFilesHaveFeatureOrdersCodesAtNought(t *testing.T) {
	for _, c := range []struct {
		list []impl.Feature
		code int
	}{
		{manyFeatures(31), impl.ErrMany}, {manyFeatures(300), impl.ErrMany}, {slices.Repeat(features("a"), 31), impl.ErrMany}, {make([]impl.Feature, 31), impl.ErrMany}, {make([]impl.Feature, 3276), impl.ErrMany},
		{make([]impl.Feature, 1), impl.ErrBad}, {make([]impl.Feature, 30), impl.ErrBad}, {append(features("a", "a", "b on c", "d on d"), impl.Feature{}), impl.ErrBad}, {features("a", "9"), impl.ErrBad},
		{[]impl.Feature{fill("a", box(1, 0, 0, 1, 1, 1))}, impl.ErrBad}, {[]impl.Feature{{Name: "a", Kind: 1, Box: unit, DX: 1}}, impl.ErrBad}, {[]impl.Feature{stand("", 1, fill("a", unit))}, impl.ErrBad},
		{features("a", "a"), impl.ErrTwice}, {features("a", "b", "a", "c on nowhere"), impl.ErrTwice}, {features("d on d", "b on c"), impl.ErrName}, {features("a of b"), impl.ErrName}, {features("a", "r of a", "s of r"), impl.ErrName},
		{features("a on a"), impl.ErrLoop}, {features("a on b", "b on a"), impl.ErrLoop},
	} {
		file := fileOf(c.list)
		checkFault(t, file, c.code, 0)
		// what is wrong with the bytes is ahead of that
		checkFault(t, file[:len(file)-1], impl.ErrForm, len(file)-1)
		checkFault(t, append(slices.Clone(file), 0), impl.ErrForm, len(file))
		checkFault(t, withByte(file, len(file)-1, 77), impl.ErrForm, len(file)-3)
		sumAt := len(file) - 3 - 2
		checkFault(t, withByte(file, sumAt, file[sumAt]^1), impl.ErrSum, sumAt)
	}
}

// Of several faults the first byte counts, whatever code it has; of one record
// its sum ahead of what is in it.
func TestFileFaultsInTheirOrder(t *testing.T) {
	sum := func(record []byte) []byte { return withByte(record, len(record)-1, record[len(record)-1]^1) }
	right := twoRecord(0)
	wrong := recordTold(withByte(bodyTold(fill("x", unit)), 0, 9))
	checkFault(t, fileTold(sum(wrong)), impl.ErrSum, 5+3+16)
	checkFault(t, fileTold(wrong, sum(right)), impl.ErrForm, 5)
	checkFault(t, fileTold(sum(right), wrong), impl.ErrSum, 24)
	checkFault(t, fileTold(right, sum(right), wrong), impl.ErrSum, 26+19)
	checkFault(t, fileTold(right, wrong, sum(right)), impl.ErrForm, 26)
	checkFault(t, append(fileTold(sum(right)), 0), impl.ErrSum, 24)
	checkFault(t, fileTold(sum(right))[:27], impl.ErrSum, 24)
	checkFault(t, fileTold(sum(right))[:26], impl.ErrSum, 24)
	checkFault(t, fileTold(sum(right))[:25], impl.ErrForm, 25)
	checkFault(t, fileTold(wrong)[:26], impl.ErrForm, 5)
	checkFault(t, fileTold(wrong)[:25], impl.ErrForm, 25)
	checkFault(t, withByte(fileTold(sum(right)), 0, 'p'), impl.ErrForm, 0)
	checkFault(t, fileTold(sum(right), []byte("x")), impl.ErrSum, 24)
	checkFault(t, fileTold([]byte("x"), sum(right)), impl.ErrForm, 5)
	checkFault(t, fileTold(right, right, []byte("x")), impl.ErrForm, 47)
}

func TestBytesBeyondTheLimit(t *testing.T) {
	for _, start := range [][]byte{nil, twoFile(), []byte(fileHead), []byte("nothing")} {
		for _, more := range []int{1, 2, impl.MaxText} {
			b := append(slices.Clone(start), make([]byte, impl.MaxText+more-len(start))...)
			if list, code, at := impl.ReadFile(b); len(list) != 0 || code != impl.ErrLong || at != 0 {
				t.Error("ReadFile", len(b), short(list), code, at)
			}
			if list, lost, code := impl.Repair(b); len(list) != 0 || lost != 0 || code != impl.ErrLong {
				t.Error("Repair", len(b), short(list), lost, code)
			}
		}
	}
	full := append(twoFile(), make([]byte, impl.MaxText-51)...)
	checkFault(t, full, impl.ErrForm, 51)
	checkSaved(t, full, impl.MaxText-48, twoFeatures()...)
	// as many records as there is room for
	many := fileOf(make([]impl.Feature, 3276))
	checkFault(t, many, impl.ErrMany, 0)
	checkSaved(t, many, 0, impl.Feature{})
}
