package tests

import (
	"math/rand"
	"slices"
	"strings"
	"testing"

	"loop.example/g00056/impl"
)

const longest = 1000 // what a panel, a plate, a width, a radius and a thickness are at most

type strip struct{ panels, bends []int }

// stripTold reads "4 L3 R2 S1": the first panel, then the bends, each with the
// panel behind it: to the left, to the right, straight on.
func stripTold(t *testing.T, told string) strip {
	t.Helper()
	var s strip
	for i, word := range strings.Fields(told) {
		if i > 0 {
			s.bends = append(s.bends, strings.IndexByte("RSL", word[0])-1)
			word = word[1:]
		}
		var length int
		scan(t, word, "%d", &length)
		s.panels = append(s.panels, length)
	}
	return s
}

func (s strip) copied() strip { return strip{slices.Clone(s.panels), slices.Clone(s.bends)} }

// first: the strip's first panels, and the bends between them.
func (s strip) first(panels int) strip { return strip{s.panels[:panels], s.bends[:panels-1]} }

func (s strip) flipped() strip {
	other := s.copied()
	for i := range other.bends {
		other.bends[i] *= -1
	}
	return other
}

// reversed: the same strip from its other end; what was to the left is to the right.
func (s strip) reversed() strip {
	other := s.flipped()
	slices.Reverse(other.panels)
	slices.Reverse(other.bends)
	return other
}

func exactStripCode(s strip) int {
	if len(s.panels) > impl.MaxList || len(s.bends) > impl.MaxList {
		return impl.ErrLong
	}
	if len(s.panels) < 1 || len(s.panels) > 40 || len(s.bends)+1 != len(s.panels) {
		return impl.ErrBad
	}
	for _, length := range s.panels {
		if length < 1 || length > longest {
			return impl.ErrBad
		}
	}
	for _, bend := range s.bends {
		if bend != -1 && bend != 0 && bend != 1 {
			return impl.ErrBad
		}
	}
	return impl.OK
}

// walked goes along a strip unit by unit: all that panels have in common has a
// whole point, and one where it has been already is one too many.
func walked(s strip) ([]impl.Point, int, int) {
	headings := points(1, 0, 0, 1, -1, 0, 0, -1)
	here, heading := at(0, 0), 0
	been := map[impl.Point]int{here: 1}
	corners := []impl.Point{here}
	for panel, length := range s.panels {
		if panel > 0 {
			heading = (heading + 4 + s.bends[panel-1]) % 4
		}
		for range length {
			here = at(here.X+headings[heading].X, here.Y+headings[heading].Y)
			been[here]++
			if been[here] > 1 {
				return nil, impl.ErrState, panel
			}
		}
		corners = append(corners, here)
	}
	return corners, impl.OK, 0
}

// checkCorners holds corners against the words: how long, and turned how.
func checkCorners(t *testing.T, s strip, corners []impl.Point) {
	t.Helper()
	if len(corners) != len(s.panels)+1 || corners[0] != at(0, 0) || corners[1] != at(s.panels[0], 0) {
		t.Fatal("Bent", s, corners)
	}
	for i, length := range s.panels {
		x, y := corners[i+1].X-corners[i].X, corners[i+1].Y-corners[i].Y
		if x*x+y*y != length*length || x != 0 && y != 0 {
			t.Fatal("Bent", s, corners, "the panel", i, "is not", length)
		}
		if i == 0 {
			continue
		}
		lastX, lastY := corners[i].X-corners[i-1].X, corners[i].Y-corners[i-1].Y
		left, on := lastX*y-lastY*x, lastX*x+lastY*y
		if both := length * s.panels[i-1]; left != s.bends[i-1]*both || s.bends[i-1] == 0 && on != both {
			t.Fatal("Bent", s, corners, "the bend ahead of the panel", i, "is not", s.bends[i-1])
		}
	}
}

// checkBent: a strip is bent as it is walked along; its corners give it again,
// and those of one that meets itself give none.
func checkBent(t *testing.T, s strip) ([]impl.Point, int, int) {
	t.Helper()
	corners, code, panel := impl.Bent(s.panels, s.bends)
	want, wantCode, wantPanel := walked(s)
	if code != wantCode || panel != wantPanel || !slices.Equal(corners, want) {
		t.Fatal("Bent", s, corners, code, panel, "not", want, wantCode, wantPanel)
	}
	if code == impl.OK {
		checkCorners(t, s, corners)
		checkFlat(t, corners, s)
	} else {
		checkNotFlat(t, stripped(s))
	}
	return corners, code, panel
}

// stripped: the corners, whether the strip meets itself or not.
func stripped(s strip) []impl.Point {
	x, y := 1, 0
	corners := points(0, 0)
	for panel, length := range s.panels {
		if panel > 0 {
			switch s.bends[panel-1] {
			case 1:
				x, y = -y, x
			case -1:
				x, y = y, -x
			}
		}
		last := corners[panel]
		corners = append(corners, at(last.X+x*length, last.Y+y*length))
	}
	return corners
}

// checkBentOtherWays: flipped, from its other end, and without its last panels.
func checkBentOtherWays(t *testing.T, s strip) {
	t.Helper()
	corners, code, panel := checkBent(t, s)
	flipped, flippedCode, flippedPanel := checkBent(t, s.flipped())
	if flippedCode != code || flippedPanel != panel {
		t.Fatal("Bent", s, code, panel, "flipped", flippedCode, flippedPanel)
	}
	for i, corner := range corners {
		if flipped[i] != at(corner.X, -corner.Y) {
			t.Fatal("Bent", s, corners, "flipped", flipped)
		}
	}
	if _, reversedCode, _ := checkBent(t, s.reversed()); reversedCode != code {
		t.Fatal("Bent", s, code, "from its other end", reversedCode)
	}
	if code != impl.ErrState {
		return
	}
	if _, ahead, _ := checkBent(t, s.first(panel)); ahead != impl.OK {
		t.Fatal("Bent", s, "meets itself ahead of the panel", panel)
	}
	if _, first, at := checkBent(t, s.first(panel+1)); first != code || at != panel {
		t.Fatal("Bent", s, "does not meet itself up to the panel", panel, first, at)
	}
}

func TestSheetLimits(t *testing.T) {
	if impl.MaxPanels != 40 || impl.MaxPlates != 100 || impl.MaxBest != 5 {
		t.Error("limits", impl.MaxPanels, impl.MaxPlates, impl.MaxBest)
	}
}

func TestCornersTold(t *testing.T) {
	for _, c := range []struct {
		told    string
		corners []impl.Point
	}{
		{"1", points(0, 0, 1, 0)}, {"5", points(0, 0, 5, 0)}, {"1000", points(0, 0, 1000, 0)},
		// to the left, to the right, straight on
		{"4 L3", points(0, 0, 4, 0, 4, 3)}, {"4 R3", points(0, 0, 4, 0, 4, -3)}, {"4 S3", points(0, 0, 4, 0, 7, 0)},
		{"4 L3 L2", points(0, 0, 4, 0, 4, 3, 2, 3)}, {"4 R3 R2", points(0, 0, 4, 0, 4, -3, 2, -3)}, {"4 L3 R2", points(0, 0, 4, 0, 4, 3, 6, 3)}, {"4 R3 L2", points(0, 0, 4, 0, 4, -3, 6, -3)},
		{"4 L3 S2", points(0, 0, 4, 0, 4, 3, 4, 5)}, {"4 R3 S2", points(0, 0, 4, 0, 4, -3, 4, -5)}, {"4 S3 L2", points(0, 0, 4, 0, 7, 0, 7, 2)}, {"4 S3 R2", points(0, 0, 4, 0, 7, 0, 7, -2)}, {"4 S3 S2", points(0, 0, 4, 0, 7, 0, 9, 0)},
		// each heading, left, right and straight on
		{"5 L5 L9 L9 L9 R1 R7", points(0, 0, 5, 0, 5, 5, -4, 5, -4, -4, 5, -4, 5, -5, -2, -5)},
		{"1 L1 L2 S1 L3 S1 L9", points(0, 0, 1, 0, 1, 1, -1, 1, -2, 1, -2, -2, -2, -3, 7, -3)},
		{"1 R1 R2 S1 R3 S1 R9", points(0, 0, 1, 0, 1, -1, -1, -1, -2, -1, -2, 2, -2, 3, 7, 3)},
		{"2 L2 R2 L2 R2", points(0, 0, 2, 0, 2, 2, 4, 2, 4, 4, 6, 4)}, {"2 R2 L2 R2 L2", points(0, 0, 2, 0, 2, -2, 4, -2, 4, -4, 6, -4)},
		// there and back, side by side
		{"9 L1 L9 R1 R9 L1 L9", points(0, 0, 9, 0, 9, 1, 0, 1, 0, 2, 9, 2, 9, 3, 0, 3)},
		// inwards and outwards
		{"5 L5 L5 L4 L4 L3 L3 L2 L2 L1 L1", points(0, 0, 5, 0, 5, 5, 0, 5, 0, 1, 4, 1, 4, 4, 1, 4, 1, 2, 3, 2, 3, 3, 2, 3)},
		{"1 R1 R2 R2 R3 R3 R4", points(0, 0, 1, 0, 1, -1, -1, -1, -1, 1, 2, 1, 2, -2, -2, -2)},
		{"1000 L1000 L1000 L999", points(0, 0, 1000, 0, 1000, 1000, 0, 1000, 0, 1)},
	} {
		s := stripTold(t, c.told)
		corners, code, panel := impl.Bent(s.panels, s.bends)
		if code != impl.OK || panel != 0 || !slices.Equal(corners, c.corners) {
			t.Error("Bent", c.told, corners, code, panel, "not", c.corners)
		}
		checkBentOtherWays(t, s)
	}
}

func TestStripsThatMeetThemselves(t *testing.T) {
	for _, c := range []struct {
		told  string
		panel int // 0: it does not
	}{
		// at the very beginning, and just not
		{"4 L3 L4 L3", 3}, {"4 L3 L4 L2", 0}, {"4 R3 R4 R3", 3}, {"4 R3 R4 R2", 0}, {"1 L1 L1 L1", 3}, {"1 L1 L1", 0}, {"1000 L1000 L1000 L1000", 3},
		// from above onto a panel, across it, and just not
		{"4 L3 L2 L3", 3}, {"4 L3 L2 L2", 0}, {"4 L3 L2 L4", 3}, {"4 L3 L2 L999", 3}, {"4 L3 L3 L3", 3}, {"4 L3 L1 L3", 3}, {"4 L3 L5 L3", 0}, {"4 L3 L5 L9", 0},
		// onto an end between two panels
		{"2 S2 L3 L2 L3", 4}, {"2 S2 L3 L2 L2", 0}, {"2 L2 S2 L2 L2 L2", 5}, {"2 L2 S2 L2 L2 L1", 0}, {"4 L3 R3 R3 R3", 4}, {"4 L3 R3 R3 R2", 0}, {"4 L3 R3 R3 R9", 4},
		// along a panel: from its beginning, over all of it, from within
		{"4 L3 L6 L3 L1", 0}, {"4 L3 L6 L3 L2", 4}, {"4 L3 L6 L3 L3", 4}, {"4 L3 L6 L3 L6", 4}, {"4 L3 L6 L3 L7", 4}, {"4 L3 L6 L3 S1 L9", 0},
		{"4 L2 L2 L1 L1", 0}, {"4 L2 L2 L1 L2", 4}, {"4 L2 L2 L1 L1 R1", 5}, {"3 S3 S3 L1 L1 L1", 5}, {"4 L4 L6 L5 L3 L2", 5}, {"4 L4 L6 L5 L3 L1", 5}, {"4 L4 L6 L5 L3 S4 L5", 0}, {"4 L4 L6 L5 L3 S3 L5", 6},
		// a corner that touches a panel, a panel that touches a corner, corner to corner
		{"5 L5 L3 L5 R1", 3}, {"5 L5 L3 L4 R1", 0}, {"5 L5 L3 L4 R1 R1", 0}, {"3 L3 L3 L1 L3", 4}, {"3 L3 L3 L1 L2", 0}, {"3 L3 R3 R3 R3", 4}, {"3 L3 R3 R3 R3 R3", 4}, {"3 L3 R3 R3 R2 R2", 0}, {"3 L3 R3 R3 R2 R3", 5},
		// straight on into a panel
		{"5 L5 L3 L1 S1 S1 S1 S1", 7}, {"5 L5 L3 L1 S1 S1 S1", 0}, {"5 L5 L5 S1 S1 L5 L2 S1", 6}, {"5 L5 L5 S1 S1 L5 L2", 6}, {"5 L5 L5 S1 S1 L5 L1 S1", 7}, {"5 L5 L5 S1 S1 L5 L1 S1 S1", 7},
		// panels go on behind the first one that meets another one
		{"4 L3 L4 L3 L1 L1", 3}, {"1 L1 L1 L1 L1 L1 L1 L1", 3}, {"4 L3 L2 L9 S1 S1 R5 R50", 3}, {"9 L2 L2 L1 R9 S9", 0}, {"9 L2 L2 L1 R7 L1", 5}, {"9 L2 L2 L1 R8 L1", 0},
		// a late panel meets the first one, one in the middle, the one but two ahead
		{"9 L9 L9 L8 L8 L7 L7 L6 L6 L5 L5", 0}, {"9 L9 L9 L8 L8 L7 L7 L6 L6 L5 L6", 10}, {"9 L9 L9 L8 L8 L7 L8", 6}, {"9 L9 L9 L8 L8 L8", 5}, {"9 L9 L9 L8 L9", 4}, {"9 L9 L9 L9", 3}, {"1 L1 L2 L2 L3 L3 L4 L4 L5", 0}, {"1 L1 L2 L2 L3 L3 L4 L4 S9 L9 L9 L9", 11}, {"1 L1 L2 L2 L3 L3 L4 L4 S9 L9 L9 L8", 0}, {"9 L1 L1 R1 R1 R1", 5},
	} {
		s := stripTold(t, c.told)
		code := impl.OK
		if c.panel > 0 {
			code = impl.ErrState
		}
		corners, got, panel := impl.Bent(s.panels, s.bends)
		if got != code || panel != c.panel || (len(corners) > 0) != (code == impl.OK) {
			t.Error("Bent", c.told, corners, got, panel, "not", code, c.panel)
			continue
		}
		checkBentOtherWays(t, s)
	}
}

// eachStrip gives all strips of so many panels, each at most so long.
func eachStrip(panels, most int, give func(strip)) {
	s := strip{allOf(1, panels), allOf(-1, panels-1)}
	for {
		give(s)
		place := 0
		for ; place < panels; place++ {
			if s.panels[place]++; s.panels[place] <= most {
				break
			}
			s.panels[place] = 1
		}
		if place < panels {
			continue
		}
		for place = 0; place < panels-1; place++ {
			if s.bends[place]++; s.bends[place] <= 1 {
				break
			}
			s.bends[place] = -1
		}
		if place == panels-1 {
			return
		}
	}
}

func TestAllSmallStrips(t *testing.T) {
	codes := map[int]int{}
	for _, size := range [][2]int{{1, 9}, {2, 5}, {3, 4}, {4, 3}, {5, 3}, {6, 2}, {7, 1}, {8, 1}} {
		eachStrip(size[0], size[1], func(s strip) {
			_, code, _ := checkBent(t, s)
			codes[code]++
		})
	}
	if codes[impl.OK] < 1000 || codes[impl.ErrState] < 1000 || len(codes) != 2 {
		t.Error("codes", codes)
	}
}

// drawnStrip bends to one side more often, the more often the less even.
func drawnStrip(draw *rand.Rand, panels, most, uneven int) strip {
	var s strip
	for i := range panels {
		s.panels = append(s.panels, 1+draw.Intn(most))
		if i > 0 {
			bend := draw.Intn(3) - 1
			if draw.Intn(10) < uneven {
				bend = 1
			}
			s.bends = append(s.bends, bend)
		}
	}
	return s
}

func TestDrawnStrips(t *testing.T) {
	draw := rand.New(rand.NewSource(161))
	codes, late := map[int]int{}, 0
	for _, c := range []struct{ times, most int }{{3000, 2}, {3000, 5}, {1500, 12}, {200, 100}, {40, longest}} {
		for range c.times {
			s := drawnStrip(draw, 1+draw.Intn(impl.MaxPanels), c.most, draw.Intn(10))
			_, code, panel := checkBent(t, s)
			codes[code]++
			if panel > 10 {
				late++
			}
			if draw.Intn(10) == 0 {
				checkBentOtherWays(t, s)
			}
		}
	}
	if codes[impl.OK] < 500 || codes[impl.ErrState] < 500 || late < 100 {
		t.Error("codes", codes, late)
	}
}

// spiral: all to the left, the panels ever shorter.
func spiral(panels, from int) strip {
	s := strip{bends: allOf(1, panels-1)}
	for i := range panels {
		s.panels = append(s.panels, from-max(0, i-1)/2)
	}
	return s
}

// stairs bend to the left and to the right by turns.
func stairs(panels, length int) strip {
	s := strip{allOf(length, panels), allOf(1, panels-1)}
	for i := range s.bends {
		if i%2 == 1 {
			s.bends[i] = -1
		}
	}
	return s
}

func TestStripsOfTheMostPanels(t *testing.T) {
	const most = impl.MaxPanels
	for _, s := range []strip{
		{allOf(longest, most), allOf(0, most-1)}, {allOf(1, most), allOf(0, most-1)}, stairs(most, longest), stairs(most, 1), spiral(most, longest), spiral(most, most/2+1), spiral(most, most/2),
	} {
		corners, code, _ := checkBent(t, s)
		if code != impl.OK || len(corners) != most+1 {
			t.Fatal("Bent", short(s), code)
		}
		checkBentOtherWays(t, s)
	}
	corners, _, _ := impl.Bent(allOf(longest, most), allOf(0, most-1))
	if corners[most] != at(most*longest, 0) {
		t.Error("Bent", corners[most])
	}
	// the last panel of all meets one
	for _, end := range []int{3, 4, longest} {
		s := spiral(most, 21)
		s.panels[most-1] = end
		if _, code, panel := checkBent(t, s); code != impl.ErrState || panel != most-1 {
			t.Error("Bent", s, code, panel)
		}
	}
	checkNoStrip(t, strip{allOf(longest, most+1), allOf(0, most)}, impl.ErrBad)
	checkNoStrip(t, stairs(most+1, 1), impl.ErrBad)
}

// checkNoStrip: Bent answers that code and nothing else.
func checkNoStrip(t *testing.T, s strip, code int) {
	t.Helper()
	if want := exactStripCode(s); want != code {
		t.Fatal("the case itself is wrong", short(s), want, code)
	}
	if corners, got, panel := impl.Bent(s.panels, s.bends); len(corners) != 0 || got != code || panel != 0 {
		t.Error("Bent", short(s), short(corners), got, panel, "not", code)
	}
}

var wrongLengths = []int{0, -1, longest + 1, -longest, 2 * longest, least, least + 1, greatest, greatest - 1, 1 << 32, 1<<32 + 5, -1 << 32, 5 - 1<<32}

var wrongBends = []int{2, -2, 3, -3, 4, 90, least, least + 1, greatest, greatest - 1, 1 << 32, 1<<32 + 1, 1<<32 - 1, -1 << 32}

func TestNoStrips(t *testing.T) {
	checkNoStrip(t, strip{}, impl.ErrBad)
	checkNoStrip(t, strip{[]int{}, []int{}}, impl.ErrBad)
	for _, told := range []string{"5", "4 L3", "4 L3 S2 R1", "4 L3 L4 L3 L1", "1000 L1000 L1 S1 L2"} {
		right := stripTold(t, told)
		for place := range right.panels {
			for _, length := range wrongLengths {
				s := right.copied()
				s.panels[place] = length
				checkNoStrip(t, s, impl.ErrBad)
			}
		}
		for place := range right.bends {
			for _, bend := range wrongBends {
				s := right.copied()
				s.bends[place] = bend
				checkNoStrip(t, s, impl.ErrBad)
			}
		}
		checkNoStrip(t, strip{right.panels, append(slices.Clone(right.bends), 0)}, impl.ErrBad)
		checkNoStrip(t, strip{right.panels, append(slices.Clone(right.bends), 1, -1)}, impl.ErrBad)
		checkNoStrip(t, strip{append(slices.Clone(right.panels), 1), right.bends}, impl.ErrBad)
		checkNoStrip(t, strip{right.panels[1:], right.bends}, impl.ErrBad)
		checkNoStrip(t, strip{nil, right.bends}, impl.ErrBad)
		if len(right.bends) > 0 {
			checkNoStrip(t, strip{right.panels, nil}, impl.ErrBad)
		}
	}
	for _, count := range []int{41, 42, 100, impl.MaxList - 1, impl.MaxList} {
		checkNoStrip(t, strip{allOf(1, count), make([]int, count-1)}, impl.ErrBad)
		checkNoStrip(t, strip{allOf(1, count), make([]int, count)}, impl.ErrBad)
		checkNoStrip(t, strip{allOf(1, 3), make([]int, count)}, impl.ErrBad)
	}
	for _, count := range []int{impl.MaxList + 1, 2 * impl.MaxList} {
		for _, number := range []int{1, 0, least, greatest} {
			checkNoStrip(t, strip{allOf(number, count), make([]int, count-1)}, impl.ErrLong)
			checkNoStrip(t, strip{allOf(number, count), nil}, impl.ErrLong)
			checkNoStrip(t, strip{allOf(4, 3), allOf(number, count)}, impl.ErrLong)
			checkNoStrip(t, strip{nil, allOf(number, count)}, impl.ErrLong)
			checkNoStrip(t, strip{allOf(number, impl.MaxList), allOf(number, count)}, impl.ErrLong)
			checkNoStrip(t, strip{allOf(number, count), allOf(number, count)}, impl.ErrLong)
		}
	}
}
