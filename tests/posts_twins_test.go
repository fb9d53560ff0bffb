package tests

import (
	"slices"
	"strings"
	"testing"

	"loop.example/g00056/impl"
)

// unitsOf has a Fast move along one axis unit by unit, so that nothing is to be
// put together: Num tells 1 for a unit and 2 for a place.
func unitsOf(acts []impl.Act) []impl.Act {
	var units []impl.Act
	at := [3]int{}
	for _, a := range acts {
		if a.Kind != impl.AcMove {
			units = append(units, a)
			continue
		}
		to := [3]int{a.X, a.Y, a.Z}
		axes, axis := 0, 0
		for i := range to {
			if to[i] != at[i] {
				axes, axis = axes+1, i
			}
		}
		switch {
		case axes == 0:
		case axes > 1 || !a.Fast:
			a.Num = 2
			units = append(units, a)
		default:
			for at[axis] != to[axis] {
				way := [3]int{}
				way[axis] = 1
				if to[axis] < at[axis] {
					way[axis] = -1
				}
				at[axis] += way[axis]
				units = append(units, impl.Act{Kind: a.Kind, Fast: true, X: way[0], Y: way[1], Z: way[2], Num: 1})
			}
		}
		at = to
	}
	return units
}

// exactTwins goes by the document's words, all moves told in units.
func exactTwins(a, b string) (bool, int) {
	if len(a) > 65536 || len(b) > 65536 {
		return false, impl.ErrLong
	}
	one, two := exactRun(a), exactRun(b)
	switch {
	case one.Code != impl.OK:
		return false, one.Code
	case two.Code != impl.OK:
		return false, two.Code
	}
	return slices.Equal(unitsOf(one.Acts), unitsOf(two.Acts)), impl.OK
}

func checkTwinsByWords(t *testing.T, a, b string) bool {
	t.Helper()
	want, wantCode := exactTwins(a, b)
	got, code := impl.Twins(a, b)
	if got != want || code != wantCode {
		t.Fatalf("Twins(%q, %q): %v %d, not %v %d", a, b, got, code, want, wantCode)
	}
	return got
}

// checkTwins: two programs with bars for bytes 10, either way round.
func checkTwins(t *testing.T, a, b string, want bool) {
	t.Helper()
	for _, pair := range [][2]string{{a, b}, {b, a}} {
		one, two := program(pair[0]), program(pair[1])
		if got, code := impl.Twins(one, two); got != want || code != impl.OK {
			t.Errorf("Twins(%q, %q): %v %d, not %v", one, two, got, code, want)
		}
		checkTwinsByWords(t, one, two)
	}
}

func checkAllTwins(t *testing.T, bars ...string) {
	t.Helper()
	for _, a := range bars {
		for _, b := range bars {
			checkTwins(t, a, b, true)
		}
	}
}

// checkNoTwins: each is the twin of itself, and of no other one.
func checkNoTwins(t *testing.T, bars ...string) {
	t.Helper()
	for i, a := range bars {
		for j, b := range bars {
			checkTwins(t, a, b, i == j)
		}
	}
}

// axesTurned: the program with Y for X, Z for Y, X for Z, as often.
func axesTurned(bars string, times int) string {
	for range times {
		bars = strings.NewReplacer("X", "Y", "Y", "Z", "Z", "X").Replace(bars)
	}
	return bars
}

// waysTurned: the other direction along each axis, of places other than 0.
func waysTurned(bars string) string {
	for _, letter := range []string{"X", "Y", "Z"} {
		bars = strings.ReplaceAll(bars, letter, letter+"-")
		bars = strings.ReplaceAll(strings.ReplaceAll(bars, letter+"--", letter), letter+"-0", letter+"0")
	}
	return bars
}

// onEachAxis: what holds along one axis, either way, holds along the others.
func onEachAxis(t *testing.T, check func(*testing.T, ...string), bars ...string) {
	t.Helper()
	for times := range 3 {
		var turned, back []string
		for _, b := range bars {
			turned = append(turned, axesTurned(b, times))
			back = append(back, waysTurned(axesTurned(b, times)))
		}
		check(t, turned...)
		check(t, back...)
	}
}

func TestTwinsWrittenInOtherWays(t *testing.T) {
	checkAllTwins(t, "", "||", "(nothing)|#1=5|F3|G1|G91|N5", "M30|X1", "X0", "F1 G1 X0|Y0 Z0|G91 X0")
	checkAllTwins(t, "X1 Y2|X4|Y1", "G91 X1 Y2|X3|Y-1", "X1 Y2|G91 X3|G90 Y1", "Y2 X1 Z0|X4 Y2|X4 Y1 Z0", "N10 G0 X 1 Y2 (go)|N20 X4;|N30 Y1|N40 M30|M5", "#1=1|Y2 X#1|#1=#1+3|X#1|Y1")
	checkAllTwins(t, "X1 Y1|X2 Y2|X3 Y3", "G91|M98 P1 L3|M30|O1 X1 Y1|M99")
	checkAllTwins(t, "X3", "X1|X2|X3", "G91|M98 P1 L3|M30|O1 X1|M99", "G91|X2|X1", "X0|X3|X3|Z0")
	checkAllTwins(t, "F5 G81 R2 Z-3 X1 Y1", "F1 X1 Y1|Z2|G1 Z-3|G0 Z2", "F5 X1 Y1|Z1|G81 R2 Z-3 X1", "F5 X1 Y1|G81 R2 Z-3 X1")
	checkNoTwins(t, "F5 G81 R2 Z-3 X1 Y1", "X1 Y1|Z2|Z-3|Z2", "F5 G81 R2 Z-3 X1|Y1", "F5 G81 R2 Z-4 X1 Y1")
	// The feed, N and what is set are no acts.
	checkAllTwins(t, "F1 G1 X3", "F2 G1 X3", "G1 F100000|N5 X3", "F1|F2 X0|#1=3|G1 X#1")
	checkAllTwins(t, "X3", "X1|F9|X3", "X1|#1=7|N5|G1|G0 X3", "X1|G91|X2", "X1||X3|M30|X9", "X1|G80|X3")
}

func TestTwinsByOtherActs(t *testing.T) {
	checkNoTwins(t, "", "M3", "M4", "M-3", "M3 M3", "T3", "T4", "S3", "S4", "S3 T3", "T3|S3", "T3|T3", "M3 T3", "M3|T3", "X3", "F1 G1 X3")
	checkAllTwins(t, "M3|X0", "M3", "X0|M3", "F1|G1 X0 M3", "Y0|Z0 M3|X0")
	checkAllTwins(t, "T1 S2 M3", "T1 M3 S2", "S2|T1|M3", "S2|X0|T1|X0|M3|X0")
	// Acts between two moves that would be one.
	onEachAxis(t, checkNoTwins, "X2", "X1|M3|X2", "X1|M4|X2", "X1|T3|X2", "X1|S3|X2", "X1|M3 M3|X2", "X1|M3|T3|X2", "X2|M3", "M3|X2")
	onEachAxis(t, checkAllTwins, "X2|M3", "X1|X2 M3", "X1|X2|M3|X2", "X1|X2|X2|M3")
	onEachAxis(t, checkAllTwins, "X1|M3|X3", "X1 M3|X2|X3", "X1|X1|M3|X1|X3")
	onEachAxis(t, checkNoTwins, "X1|M3|X3", "X2|M3|X3", "X3|M3", "X1 M3|X2 M3|X3")
}

func TestTwinsOfFastMoves(t *testing.T) {
	// In one direction along one axis.
	onEachAxis(t, checkAllTwins, "X9", "X1|X9", "X8|X9", "X1|X2|X9", "X1|X2|X3|X4|X5|X6|X7|X8|X9", "G91"+strings.Repeat("|X1", 9))
	onEachAxis(t, checkAllTwins, "Y5|X9", "Y5|X1|X9", "Y2|Y5|X8|X9", "Y1|Y2|Y5|X1|X2|X9")
	onEachAxis(t, checkAllTwins, "X5|Y5|X9|Z5", "X1|X5|Y1|Y5|X6|X9|Z1|Z5", "X5|Y5|X9|Z4|Z5")
	// From below 0 to above.
	onEachAxis(t, checkAllTwins, "X-5|X5", "X-5|X-2|X5", "X-5|X-2|X0|X5", "X-1|X-5|X1|X5")
	checkAllTwins(t, "X100000|X-100000", "X50000|X100000|X0|X-100000", "X1|X99999|X100000|X99999|X1|X-1|X-99999|X-100000", "X100000|G91 X-199999|X-1")
	// In opposite directions.
	onEachAxis(t, checkNoTwins, "X1", "X3|X1", "X3|X2|X3|X1", "X4|X1", "X-1|X1", "X2|X-1|X1", "X3|X0|X1")
	onEachAxis(t, checkNoTwins, "", "X1|X0", "X2|X0", "X-1|X0", "X1|X0|X1|X0", "X1|X-1|X0")
	onEachAxis(t, checkAllTwins, "X3|X1", "X1|X3|X2|X1", "X2|X3|X1")
	// Along two axes at once, or three.
	onEachAxis(t, checkNoTwins, "X2 Y2", "X1 Y1|X2 Y2", "X1|X2 Y2", "X1 Y1|X2|Y2", "X2|Y2", "Y2|X2", "X1|Y1|X2|Y2")
	onEachAxis(t, checkNoTwins, "X3 Y1", "X1 Y1|X3 Y1", "X2 Y1|X3 Y1", "X1|X3 Y1", "Y1|X3", "X3|Y1")
	onEachAxis(t, checkNoTwins, "X2 Y2 Z2", "X1 Y1 Z1|X2 Y2 Z2", "X2 Y2|Z2", "X2|Y2 Z2", "X2|Y2|Z2")
	onEachAxis(t, checkAllTwins, "X1 Y1|X3", "X1 Y1|X2|X3", "X1 Y1|X2 Y1|X3 Y1")
	onEachAxis(t, checkAllTwins, "X3|X4 Y1", "X1|X3|X4 Y1")
	// Along different axes.
	onEachAxis(t, checkNoTwins, "X1|Y1", "X1 Y1", "Y1|X1", "X1|Y1|X2", "X2|Y1", "X1|Y1|Z1", "X1|Z1|Y1", "X1|Y-1")
	onEachAxis(t, checkNoTwins, "X1|Y1|X2|Y2", "X2|Y2", "X1|Y2|X2")
}

func TestTwinsOfOtherMoves(t *testing.T) {
	onEachAxis(t, checkNoTwins, "F1 G1 X9", "F1 G1 X1|X9", "F1 G1 X8|X9", "F1 G1 X1|X2|X9", "F1 G1 X1|X8|X9")
	onEachAxis(t, checkNoTwins, "F1 G1 X1", "F1 G1 X3|X1", "F1 G1 X-1|X1", "F1 G1 X3|X0|X1", "X1")
	onEachAxis(t, checkNoTwins, "F1 G1 X2 Y2", "F1 G1 X1 Y1|X2 Y2", "F1 G1 X1 Y1|X2|Y2", "F1 G1 X2|Y2", "F1 G1 Y2|X2", "X2 Y2")
	onEachAxis(t, checkNoTwins, "F1 G1 X1|M3|X2", "F1 G1 X2|M3", "F1 G1 X1|M4|X2", "F1 G1 X1|T3|X2")
	// Fast and not, one behind the other.
	onEachAxis(t, checkNoTwins, "X9", "F1 X1|G1 X9", "F1 G1 X1|G0 X9", "F1 G1 X9", "F1 G1 X1|X9", "F1 X1|G1 X2|G0 X9", "F1 G1 X1|G0 X2|G1 X9", "F1 X8|G1 X9")
	onEachAxis(t, checkAllTwins, "F1 X4|G1 X6|G0 X9", "F1 X1|X4|G1 X6|G0 X7|X8|X9", "F1 X4|G1 X6|X6|G0 X6|X9")
}

func TestTwinsByMovesThatGoNowhere(t *testing.T) {
	onEachAxis(t, checkAllTwins, "X3", "X0|X3", "X3|X3", "X1|X1|X3", "X1|Y0|X3|Z0", "F1 G1 X0|G0 X3", "F1 X3|G1 X3", "F1 X1|G1 X1|G0 X3", "F1 X1|G1 X1|Y0|X1 Y0 Z0|G0 X1|X3", "F1 X1|G91 G1 X0|G0 X2")
	onEachAxis(t, checkAllTwins, "F1 G1 X3", "F1 X0|G1 X3", "F1 G1 X3|X3", "F1 G1 X3|G0 X3|Y0", "F1 G1 X0|X3|X3")
	onEachAxis(t, checkNoTwins, "F1 G1 X1|X3", "F1 G1 X1|G0 X1|X3", "F1 G1 X3")
	onEachAxis(t, checkAllTwins, "F1 G1 X1|X3", "F1 G1 X1|X1|X3", "F1 G1 X1|G0 X1|G1 X3")
	onEachAxis(t, checkAllTwins, "X1 Y1|X3", "X1 Y1|X1 Y1|X3|Y1", "X1 Y1|X2|Y1|X3")
	onEachAxis(t, checkNoTwins, "X1 Y1|X3 Y3", "X1 Y1|Y1|X3 Y1|Y3", "X3 Y3")
	// They end no row, but an act beside one does.
	onEachAxis(t, checkNoTwins, "X1|X1|X3", "X1|X1 M3|X3", "X1 M3|X1 T3|X3", "X3 M3")
}

// The same acts up to one more at the end.
func TestTwinsUpToTheEnd(t *testing.T) {
	for _, bars := range []string{"", "|X1", "|X1 Y1", "|G1 X1", "|T1 S2 M3|X1|X2|X3", "|G81 R2 Z-3 X1", "|X3|X1|X2"} {
		whole := "F1" + bars + "|G80 G90 G0 X50 Y60"
		checkNoTwins(t, whole, whole+"|X51", whole+"|Y59", whole+"|Z1", whole+"|G1 X51", whole+"|M3", whole+"|T3", whole+"|S3", whole+"|X51 Z1", "F1"+bars)
		checkAllTwins(t, whole, whole+"|X50", whole+"|F7", whole+"|G1 Y60|X50", whole+"|M30|X51", whole+"|#1=3|#2=#1*5|G91")
		checkAllTwins(t, whole+"|X51", whole+"|X51|X51", whole+"|G91 X0|X1|Z0")
		checkAllTwins(t, whole+"|X52", whole+"|X51|X52")
	}
}

func checkNoAnswer(t *testing.T, a, b string, code int) {
	t.Helper()
	if alike, got := impl.Twins(a, b); alike || got != code {
		t.Errorf("Twins(%q, %q): %v %d, not %d", short(a), short(b), alike, got, code)
	}
}

func TestTwinsOfWrongPrograms(t *testing.T) {
	wrong := []struct {
		bars string
		code int
	}{
		{"q", impl.ErrSyntax}, {"X1|X", impl.ErrSyntax}, {"X1 X1", impl.ErrMany}, {strings.Repeat("|", 501), impl.ErrMany}, {"G2", impl.ErrKind}, {"X1|G1 X2", impl.ErrState}, {"X100001", impl.ErrRange}, {"T10", impl.ErrRange}, {"G81 R1", impl.ErrName}, {"M98 P1", impl.ErrNone}, {"#1=1/0", impl.ErrZero}, {"O1 M98 P1", impl.ErrMany}, {"M98 P1 L5000|O1 M99", impl.ErrFull},
	}
	right := []string{"", "X1", "F1 G1 X3|M3", "T1|M30|X1"}
	for _, a := range wrong {
		for _, b := range right {
			checkNoAnswer(t, program(a.bars), b, a.code)
			checkNoAnswer(t, program(b), program(a.bars), a.code)
		}
		for _, b := range wrong {
			checkNoAnswer(t, program(a.bars), program(b.bars), a.code)
		}
		checkNoAnswer(t, program(a.bars), program(a.bars), a.code)
	}
	// Texts that are too long, ahead of all other codes, whichever is.
	long := strings.Repeat(" ", impl.MaxText)
	for _, other := range []string{"", "X1", "q", "G2", long, long + " "} {
		for _, over := range []string{long + " ", long + "q", strings.Repeat("X1\n", impl.MaxText)} {
			checkNoAnswer(t, over, other, impl.ErrLong)
			checkNoAnswer(t, other, over, impl.ErrLong)
		}
	}
	checkTwins(t, "", long, true)
	checkTwins(t, "X1", long[2:]+"X1", true)
	checkNoAnswer(t, "q", long[1:]+"X", impl.ErrSyntax)
}
