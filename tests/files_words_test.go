package tests

import (
	"bytes"
	"slices"
	"testing"

	"loop.example/g00056/impl"
)

const (
	fileHead  = "PART\x01"
	leastBody = 15
)

// sumByPlaces: a byte counts once in a, and in b once for each byte from it on.
func sumByPlaces(b []byte) int {
	a, more := 1, len(b)
	for i, one := range b {
		a += int(one)
		more += (len(b) - i) * int(one)
	}
	return 256*(more%251) + a%251
}

func highLow(n int) []byte { return []byte{byte(n / 256), byte(n % 256)} }

// bodyTold is a record's bytes by its chapter's words, of a feature whose numbers
// have a byte each.
func bodyTold(f impl.Feature) []byte {
	body := []byte{byte(f.Kind), byte(f.Side), byte(f.Count)}
	for _, n := range []int{f.Box.X0, f.Box.Y0, f.Box.Z0, f.Box.X1, f.Box.Y1, f.Box.Z1, f.DX, f.DY, f.DZ} {
		body = append(body, byte(n+100))
	}
	body = append(body, byte(len(f.Name)), byte(len(f.On)), byte(len(f.Of)))
	return append(body, f.Name+f.On+f.Of...)
}

// recordTold has the right length and the right sum of whatever bytes.
func recordTold(body []byte) []byte {
	return slices.Concat([]byte{82}, highLow(len(body)), body, highLow(sumByPlaces(body)))
}

// recordsTold: a right record of each feature.
func recordsTold(list []impl.Feature) [][]byte {
	var records [][]byte
	for _, f := range list {
		records = append(records, recordTold(bodyTold(f)))
	}
	return records
}

// fileTold is a file of these records, whatever they are.
func fileTold(records ...[]byte) []byte {
	return slices.Concat([]byte(fileHead), slices.Concat(records...), []byte{69}, highLow(len(records)))
}

func fileOf(list []impl.Feature) []byte { return fileTold(recordsTold(list)...) }

// wholeTold: the feature of which a whole record stands at the beginning of the
// bytes, and how long it is; the bytes are read loosely, and held against the
// record that would be written of what was read.
func wholeTold(b []byte) (impl.Feature, int, bool) {
	if len(b) < 3+leastBody {
		return impl.Feature{}, 0, false
	}
	var n [12]int
	for i := range n {
		n[i] = int(b[3+i])
		if i >= 3 {
			n[i] -= 100
		}
	}
	f := impl.Feature{Kind: n[0], Side: n[1], Count: n[2], Box: box(n[3], n[4], n[5], n[6], n[7], n[8]), DX: n[9], DY: n[10], DZ: n[11]}
	texts := b[3+leastBody:]
	for i, text := range []*string{&f.Name, &f.On, &f.Of} {
		length := int(b[3+12+i])
		if len(texts) < length {
			return impl.Feature{}, 0, false
		}
		*text, texts = string(texts[:length]), texts[length:]
	}
	record := recordTold(bodyTold(f))
	return f, len(record), bytes.HasPrefix(b, record) && writable(f)
}

// writable: its numbers are such as a file's.
func writable(f impl.Feature) bool {
	for _, n := range []int{f.Box.X0, f.Box.Y0, f.Box.Z0, f.Box.X1, f.Box.Y1, f.Box.Z1, f.DX, f.DY, f.DZ} {
		if n < -24 || n > 24 {
			return false
		}
	}
	return f.Kind >= 0 && f.Kind <= 3 && f.Side >= 0 && f.Side <= 6 && f.Count >= 0 && f.Count <= 8
}

// exactFile reads a file by the chapter's words.
func exactFile(b []byte) ([]impl.Feature, int, int) {
	for i := range fileHead {
		if i == len(b) || b[i] != fileHead[i] {
			return nil, impl.ErrForm, i
		}
	}
	var list []impl.Feature
	at := len(fileHead)
	for {
		rest := b[at:]
		if len(rest) > 0 && rest[0] != 82 && rest[0] != 69 {
			return nil, impl.ErrForm, at
		}
		if len(rest) < 3 {
			return nil, impl.ErrForm, len(b)
		}
		number := 256*int(rest[1]) + int(rest[2])
		if rest[0] == 69 {
			return exactEnd(b, at, number, list)
		}
		if len(rest) < 3+number+2 {
			return nil, impl.ErrForm, len(b)
		}
		sum := rest[3+number:]
		if sumByPlaces(rest[3:3+number]) != 256*int(sum[0])+int(sum[1]) {
			return nil, impl.ErrSum, at + 3 + number
		}
		f, _, whole := wholeTold(rest[:3+number+2])
		if !whole {
			return nil, impl.ErrForm, at
		}
		list = append(list, f)
		at += 3 + number + 2
	}
}

func exactEnd(b []byte, at, number int, list []impl.Feature) ([]impl.Feature, int, int) {
	if number != len(list) {
		return nil, impl.ErrForm, at
	}
	if len(b) > at+3 {
		return nil, impl.ErrForm, at + 3
	}
	if _, code, _ := impl.FeatureOrder(list); code != impl.OK {
		return nil, code, 0
	}
	return list, impl.OK, 0
}

// exactRepair saves by the chapter's words; it tells the taken ones, too.
func exactRepair(b []byte) (saved, taken []impl.Feature, lost, code int) {
	rest := bytes.TrimPrefix(b, []byte(fileHead))
	for len(rest) > 0 {
		if f, length, whole := wholeTold(rest); whole {
			taken = append(taken, f)
			rest = rest[length:]
			continue
		}
		if bytes.Equal(rest, append([]byte{69}, highLow(len(taken))...)) {
			break
		}
		lost++
		rest = rest[1:]
	}
	for i, f := range taken {
		if _, ahead := featureNamed(taken[:i], f.Name); !ahead {
			saved = append(saved, f)
		}
	}
	if len(taken) == 0 {
		return nil, nil, 0, impl.ErrNone
	}
	return saved, taken, lost, impl.OK
}

// checkRead holds what ReadFile and Repair tell of bytes against the words, and
// against each other; it answers ReadFile's code and place.
func checkRead(t *testing.T, b []byte) (int, int) {
	t.Helper()
	list, code, at := impl.ReadFile(b)
	want, wantCode, wantAt := exactFile(b)
	if !slices.Equal(list, want) || code != wantCode || at != wantAt {
		t.Error("ReadFile", short(b), short(list), code, at, "not", short(want), wantCode, wantAt)
	}
	saved, lost := checkRepair(t, b)
	if code != impl.OK {
		return code, at
	}
	if again, code := impl.FileBytes(list); !bytes.Equal(again, b) || code != impl.OK {
		t.Error("FileBytes of what was read", short(b), short(again), code)
	}
	if !slices.Equal(saved, list) || lost != 0 {
		t.Error("Repair of a right file", short(b), short(saved), lost)
	}
	return code, at
}

// checkRepair: what is saved is saved again of a file of just that, with nothing
// left out.
func checkRepair(t *testing.T, b []byte) ([]impl.Feature, int) {
	t.Helper()
	saved, lost, code := impl.Repair(b)
	want, taken, wantLost, wantCode := exactRepair(b)
	if !slices.Equal(saved, want) || lost != wantLost || code != wantCode {
		t.Error("Repair", short(b), short(saved), lost, code, "not", short(want), wantLost, wantCode)
	}
	for i, file := range [][]byte{fileOf(saved), fileOf(taken)} {
		again, lost, code := impl.Repair(file)
		if len(file) <= impl.MaxText && len(saved) > 0 && (!slices.Equal(again, saved) || lost != 0 || code != impl.OK) {
			t.Error("Repair of what was saved", i, short(b), short(again), lost, code)
		}
	}
	return saved, lost
}

// checkFault: ReadFile tells that of the bytes, and nothing else.
func checkFault(t *testing.T, b []byte, code, at int) {
	t.Helper()
	list, got, gotAt := impl.ReadFile(b)
	if len(list) != 0 || got != code || gotAt != at {
		t.Error("ReadFile", short(b), short(list), got, gotAt, "not", code, at)
	}
	checkRead(t, b)
}

// checkSaved: Repair tells that of the bytes.
func checkSaved(t *testing.T, b []byte, lost int, want ...impl.Feature) {
	t.Helper()
	code := impl.OK
	if len(want) == 0 {
		code, lost = impl.ErrNone, 0
	}
	saved, gotLost, got := impl.Repair(b)
	if !slices.Equal(saved, want) || gotLost != lost || got != code {
		t.Error("Repair", short(b), short(saved), gotLost, got, "not", short(want), lost, code)
	}
	checkRead(t, b)
}
