package tests

import (
	"bytes"
	"slices"
	"strings"
	"testing"

	"loop.example/g00056/impl"
)

func threeFeatures() []impl.Feature {
	return []impl.Feature{fill("plate", box(0, 0, 0, 4, 3, 2)), stand("plate", impl.SdTop, empty("slot", box(1, 0, -1, 2, 3, 0))), again("more", "plate", 2, 0, 5, 0)}
}

func joined(pieces ...[]byte) []byte { return slices.Concat(pieces...) }

func TestRepairOfWhatIsNoFile(t *testing.T) {
	for _, text := range []string{
		"", "x", "P", "PAR", "PART", "PART\x01", "PART\x02", "xxxxx", "PART\x01E", "PART\x01E\x00", "PART\x01E\x00\x00", "PART\x01E\x00\x01", "PART\x01PART\x01", "E\x00\x00", "R", "RRR", "R\x00\x00\x00\x01", "R\x00\x00", "PART\x01R\x00\x00\x00\x01E\x00\x01",
		strings.Repeat("R", 1000), strings.Repeat("R\x00", 1000), strings.Repeat("E\x00\x00", 1000), strings.Repeat("PART\x01", 100), strings.Repeat("\x00", impl.MaxText), strings.Repeat("R", impl.MaxText), strings.Repeat("RR\xff", impl.MaxText/3),
	} {
		checkSaved(t, []byte(text), 0)
	}
}

// Bytes ahead of the records: they count from place 5 on if they begin as a file.
func TestRepairFromItsPlace(t *testing.T) {
	list := threeFeatures()
	records := joined(recordsTold(list)...)
	end := []byte{'E', 0, 3}
	checkSaved(t, joined([]byte(fileHead), records, end), 0, list...)
	checkSaved(t, joined(records, end), 0, list...)
	checkSaved(t, records, 0, list...)
	checkSaved(t, joined([]byte("PART"), records, end), 4, list...)
	checkSaved(t, joined([]byte("ART\x01"), records, end), 4, list...)
	checkSaved(t, joined([]byte("PART\x02"), records, end), 5, list...)
	checkSaved(t, joined([]byte("pART\x01"), records, end), 5, list...)
	checkSaved(t, joined([]byte(" PART\x01"), records, end), 6, list...)
	checkSaved(t, joined([]byte("PART\x01PART\x01"), records, end), 5, list...)
	checkSaved(t, joined([]byte("PART\x01"), []byte("xyz"), records, end), 3, list...)
	for i := range fileHead {
		file := joined([]byte(fileHead), records, end)
		checkSaved(t, withByte(file, i, 'x'), 5, list...)
		checkSaved(t, slices.Delete(file, i, i+1), 4, list...)
	}
}

func TestRepairBetweenRecords(t *testing.T) {
	list := threeFeatures()
	records := recordsTold(list)
	for _, none := range []string{"x", "E", "R", "E\x00\x00", "E\x00\x01", "E\x00\x03", "R\x00", "R\x00\x10", "RR", "PART\x01", "R\x00\x00\x00\x01", "R\xff\xff", "REST", strings.Repeat("\x00", 300), "\x00\x00R\x00\x00"} {
		for place := range 3 { // behind them the last three bytes may be an end
			b := []byte(fileHead)
			for i, record := range records {
				if i == place {
					b = append(b, none...)
				}
				b = append(b, record...)
			}
			checkSaved(t, append(b, 'E', 0, 3), len(none), list...)
			checkSaved(t, b, len(none), list...)
		}
		behind := joined([]byte(fileHead), joined(records...), []byte(none))
		lost := len(none)
		if none == "E\x00\x03" {
			lost = 0
		}
		checkSaved(t, behind, lost, list...)
	}
}

func TestRepairOfEnds(t *testing.T) {
	list := threeFeatures()
	records := joined([]byte(fileHead), joined(recordsTold(list)...))
	for _, c := range []struct {
		end  string
		lost int
	}{
		{"", 0}, {"E\x00\x03", 0}, {"E", 1}, {"E\x00", 2}, {"E\x00\x02", 3}, {"E\x00\x04", 3}, {"E\x03\x00", 3}, {"E\x01\x03", 3}, {"E\x00\x00", 3}, {"e\x00\x03", 3}, {"R\x00\x03", 3},
		{"E\x00\x03x", 4}, {"E\x00\x03E\x00\x03", 3}, {"E\x00\x03E\x00\x04", 6}, {"E\x00\x04E\x00\x03", 3}, {"xE\x00\x03", 1}, {"EE\x00\x03", 1}, {"E\x00E\x00\x03", 2}, {"E\x00\x03\x00\x03", 5}, {"E\x00\x03\n", 4},
	} {
		checkSaved(t, append(slices.Clone(records), c.end...), c.lost, list...)
	}
	// an end that is not at the very end, with records behind it
	first, second := twoRecord(0), twoRecord(1)
	checkSaved(t, joined([]byte(fileHead), first, []byte{'E', 0, 1}, second, []byte{'E', 0, 2}), 3, twoFeatures()...)
	checkSaved(t, joined([]byte(fileHead), first, []byte{'E', 0, 1}, second, []byte{'E', 0, 1}), 6, twoFeatures()...)
	checkSaved(t, joined([]byte(fileHead), first, []byte{'E', 0, 1}, second), 3, twoFeatures()...)
	checkSaved(t, joined(twoFile(), twoFile()), 3+5+3, twoFeatures()...) // four are taken
	// an end of more than 255
	many := recordsTold(manyFeatures(300))
	checkSaved(t, joined([]byte(fileHead), joined(many...), []byte{'E', 1, 44}), 0, manyFeatures(300)...)
	checkSaved(t, joined([]byte(fileHead), joined(many...), []byte{'E', 0, 44}), 3, manyFeatures(300)...)
	checkSaved(t, joined([]byte(fileHead), joined(many[1:]...), []byte{'E', 1, 44}), 3, manyFeatures(300)[1:]...)
}

func TestRepairOfSpoiltRecords(t *testing.T) {
	list := threeFeatures()
	records := recordsTold(list)
	for number := range list {
		left := slices.Delete(slices.Clone(list), number, number+1)
		from := 5
		for _, record := range records[:number] {
			from += len(record)
		}
		length := len(records[number])
		file := fileTold(records...)
		lost := length + 3 // the end has a record more than were taken
		for i := range length {
			checkSaved(t, withByte(file, from+i, file[from+i]+1), lost, left...)
			checkSaved(t, slices.Delete(slices.Clone(file), from+i, from+i+1), lost-1, left...)
			checkSaved(t, withByte(withByte(file, from+i, file[from+i]^255), len(file)-1, 2), length, left...)
		}
		// a length that goes over the records behind it, and beyond the end
		for _, spoilt := range []int{0, 1, 14, 15, 21, 40, 60, 65535} {
			other := slices.Clone(file)
			copy(other[from+1:], highLow(spoilt))
			if !bytes.Equal(other, file) {
				checkSaved(t, other, lost, left...)
			}
		}
	}
}

// A record within another one's bytes is saved only if the other one is spoilt.
func TestRepairOfRecordsWithinOthers(t *testing.T) {
	inner := fill("inner", unit)
	innerRecord := recordTold(bodyTold(inner))
	outer := fill("outer"+string(innerRecord)+"outer", unit)
	outerRecord := recordTold(bodyTold(outer))
	around := len(outerRecord) - len(innerRecord)
	list := threeFeatures()
	checkSaved(t, fileTold(outerRecord), 0, outer)
	checkSaved(t, fileTold(outerRecord, innerRecord), 0, outer, inner)
	for i := range outerRecord {
		if 3+leastBody+5 <= i && i < 3+leastBody+5+len(innerRecord) {
			continue // within the inner one
		}
		spoilt := withByte(outerRecord, i, outerRecord[i]^3)
		checkSaved(t, fileTold(spoilt), around, inner)
		checkSaved(t, fileTold(spoilt, recordsTold(list)[0], recordsTold(list)[2]), around, inner, list[0], list[2])
	}
	// in the inner one alone: both are gone
	checkSaved(t, fileTold(withByte(outerRecord, 3+leastBody+5+8, 99)), 0)
	// the beginning of a record, the rest of which stands behind another
	checkSaved(t, joined([]byte(fileHead), innerRecord[:9], twoRecord(0), innerRecord[9:], []byte{'E', 0, 1}), len(innerRecord), twoFeatures()[0])
	// marks that stand ahead of a record
	checkSaved(t, joined([]byte(fileHead), []byte("RRR"), innerRecord, []byte{'E', 0, 1}), 3, inner)
}

// Records of one name are taken, and count for the end; the first one is told.
func TestRepairOfNamesThatStoodAhead(t *testing.T) {
	a, other, b := fill("a", unit), fill("a", box(0, 0, 0, 2, 2, 2)), fill("b", unit)
	check := func(lost, number int, list, want []impl.Feature) {
		t.Helper()
		checkSaved(t, joined([]byte(fileHead), joined(recordsTold(list)...), []byte{'E', 0, byte(number)}), lost, want...)
	}
	check(0, 2, []impl.Feature{a, a}, []impl.Feature{a})
	check(3, 1, []impl.Feature{a, a}, []impl.Feature{a})
	check(0, 2, []impl.Feature{a, other}, []impl.Feature{a})
	check(0, 2, []impl.Feature{other, a}, []impl.Feature{other})
	check(0, 3, []impl.Feature{a, b, other}, []impl.Feature{a, b})
	check(3, 2, []impl.Feature{a, b, other}, []impl.Feature{a, b})
	check(0, 4, []impl.Feature{b, a, b, a}, []impl.Feature{b, a})
	check(0, 3, []impl.Feature{a, other, b}, []impl.Feature{a, b})
	check(0, 3, []impl.Feature{fill("", unit), a, fill("", box(0, 0, 0, 2, 2, 2))}, []impl.Feature{fill("", unit), a})
	check(0, 3, []impl.Feature{a, fill("A", unit), fill("a\x00", unit)}, []impl.Feature{a, fill("A", unit), fill("a\x00", unit)})
	// a record whose sum is spoilt is not taken: its name did not stand ahead
	spoilt := withByte(recordTold(bodyTold(a)), 19, 0)
	checkSaved(t, fileTold(spoilt, recordTold(bodyTold(other)), recordTold(bodyTold(b))), len(spoilt)+3, other, b)
}

// What is saved need not be right: names that are none, kinds that are none,
// features that name nothing or each other, more than MaxFeatures.
func TestRepairSavesWhatIsWhole(t *testing.T) {
	for _, list := range [][]impl.Feature{
		make([]impl.Feature, 1), {{Name: "x"}}, {{Name: "9", Kind: 3, Side: 6, Count: 8, DX: 24, DY: -24}}, {{Name: "x", On: "\x00", Of: "\xff", Kind: 1}}, {fill("x", box(24, 24, 24, -24, -24, -24))}, {fill("x", impl.Box{})},
		features("a on b"), features("a on a"), features("r of r"), features("a on b", "b on a"), features("a", "r of a", "s of r"), manyFeatures(31), manyFeatures(2000), {fill(strings.Repeat("n", 255), unit)},
	} {
		checkSaved(t, fileOf(list), 0, list...)
	}
	// beyond what a file has: it is no record, and nothing of it is saved
	for i, bound := range []byte{3, 6, 8, 124, 124, 124, 124, 124, 124, 124, 124, 124} {
		body := bodyTold(fill("x", unit))
		body[i] = bound
		f, _, _ := wholeTold(recordTold(body))
		checkSaved(t, fileTold(twoRecord(0), recordTold(body)), 0, twoFeatures()[0], f)
		body[i]++
		checkSaved(t, fileTold(twoRecord(0), recordTold(body)), 21+3, twoFeatures()[0])
	}
	for i := 3; i < 12; i++ {
		body := bodyTold(fill("x", unit))
		body[i] = 76
		f, _, _ := wholeTold(recordTold(body))
		checkSaved(t, fileTold(recordTold(body)), 0, f)
		body[i] = 75
		checkSaved(t, fileTold(recordTold(body)), 0)
	}
	for _, length := range []int{-1, 1} {
		for text := range 3 {
			body := bodyTold(impl.Feature{Name: "abc", On: "def", Of: "ghi"})
			body[12+text] = byte(3 + length)
			checkSaved(t, fileTold(twoRecord(0), recordTold(body)), 5+24+3, twoFeatures()[0])
		}
	}
}
