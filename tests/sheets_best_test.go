package tests

import (
	"fmt"
	"math/rand"
	"slices"
	"testing"

	"loop.example/g00056/impl"
)

func exactBestCode(width int, plates []impl.Plate) int {
	code := exactNestCode(width, plates)
	if code == impl.OK && len(plates) > 5 {
		return impl.ErrMany
	}
	return code
}

// ordersOf: all orders of so many numbers, by their lists: those of all lists
// of such numbers in which each is.
func ordersOf(count int) [][]int {
	orders := [][]int{nil}
	for range count {
		var longer [][]int
		for _, order := range orders {
			for number := range count {
				longer = append(longer, append(slices.Clone(order), number))
			}
		}
		orders = longer
	}
	return slices.DeleteFunc(orders, func(order []int) bool {
		return !slices.Equal(slices.Sorted(slices.Values(order)), numbersTo(count))
	})
}

// exactBest tries all ways one by one, from the first one on, and takes one
// only if it is lower than all ahead.
func exactBest(width int, plates []impl.Plate) ([]impl.Spot2, int) {
	var best []impl.Spot2
	lowest := greatest
	for _, order := range ordersOf(len(plates)) {
	nextWay:
		for way := range 1 << len(plates) {
			var ways []impl.Spot2
			for i, number := range order {
				s := impl.Spot2{Plate: number, Turned: way>>(len(order)-1-i)&1 == 1}
				if sizeLaid(plates, s).W > width {
					continue nextWay
				}
				ways = append(ways, s)
			}
			if spots, high := exactLaid(width, plates, ways); high < lowest {
				best, lowest = spots, high
			}
		}
	}
	return best, lowest
}

func checkBest(t *testing.T, width int, plates []impl.Plate) ([]impl.Spot2, int) {
	t.Helper()
	spots, high, code := impl.NestBest(width, plates)
	if code != impl.OK {
		t.Fatal("NestBest", width, plates, spots, high, code)
	}
	checkLies(t, width, plates, spots, high)
	if want, wantHigh := exactBest(width, plates); !slices.Equal(spots, want) || high != wantHigh {
		t.Fatal("NestBest", width, plates, spots, high, "not", want, wantHigh)
	}
	if _, plain, _ := impl.Nest(width, plates); high > plain {
		t.Fatal("NestBest", width, plates, high, "but Nest", plain)
	}
	return spots, high
}

// checkBothNests: what Nest and NestBest answer of the same.
func checkBothNests(t *testing.T, width int, plates []impl.Plate, code, bestCode int) {
	t.Helper()
	checkNested(t, width, plates, code)
	if want := exactBestCode(width, plates); want != bestCode {
		t.Fatal("the case itself is wrong", width, short(plates), want, bestCode)
	}
	spots, high, got := impl.NestBest(width, plates)
	if got != bestCode || got != impl.OK && (len(spots) != 0 || high != 0) {
		t.Error("NestBest", width, short(plates), short(spots), high, got, "not", bestCode)
	}
	if got == impl.OK {
		checkLies(t, width, plates, spots, high)
	}
}

func TestBestNestsTold(t *testing.T) {
	for _, c := range []struct {
		width         int
		plates, spots string
		high          int
	}{
		{3, "", "", 0}, {1, "1x1", "0:0,0", 1}, {1, "1x9", "0:0,0", 9}, {1, "9x1", "0:0,0t", 9},
		// lower turned, as low turned, not to be turned, only turned
		{6, "2x5", "0:0,0t", 2}, {6, "5x2", "0:0,0", 2}, {6, "4x4", "0:0,0", 4}, {6, "6x7", "0:0,0", 7}, {6, "7x6", "0:0,0t", 7}, {6, "2x9", "0:0,0", 9}, {6, "2x6", "0:0,0t", 2}, {6, "2x7", "0:0,0", 7},
		{6, "4x3 3x2", "0:0,0 1:4,0t", 3}, {6, "3x4 3x2", "0:0,0t 1:4,0t", 3}, {6, "4x3 2x3", "0:0,0 1:4,0", 3}, {6, "3x3 3x3", "0:0,0 1:3,0", 3}, {5, "3x3 3x3", "0:0,0 1:0,3", 6},
		// of alike ones the first order, even where it turns one and the order 1, 2, 0 would turn none
		{5, "1x1 2x2 3x2", "0:0,0 1:1,0 2:3,0t", 3}, {3, "2x3 1x1 1x2", "0:0,0 1:2,0 2:2,1", 3}, {3, "1x2 2x2", "0:0,0 1:1,0", 2}, {4, "1x1 4x1 3x1", "0:0,0 1:0,1 2:1,0", 2},
		// of alike ones the first way: the first plate of the order counts most
		{5, "3x2 3x2", "0:0,0 1:3,0t", 3}, {4, "1x2 1x2", "0:0,0t 1:2,0t", 1}, {3, "1x2 1x2", "0:0,0 1:1,0", 2}, {3, "2x1 2x1", "0:0,0 1:0,1", 2}, {2, "1x2 1x2 1x2", "0:0,0 1:1,0 2:0,2t", 3}, {3, "2x1 1x2 1x1", "0:0,0 1:2,0 2:0,1", 2}, {2, "2x1 2x1", "0:0,0 1:0,1", 2},
		// no way of the list's own order is as low: the first one is in the way of both others, and none can be turned
		{5, "1x1 2x6 3x6", "1:0,0 0:2,0 2:2,1", 7},
		// a hole below a wide one is filled later
		{5, "1x1 5x5 4x1", "0:0,0 1:0,1 2:1,0", 6}, {5, "1x2 5x1 4x2", "0:0,0 1:0,2 2:1,0", 3},
		// five of them
		{10, "2x2 2x2 2x2 2x2 2x2", "0:0,0 1:2,0 2:4,0 3:6,0 4:8,0", 2}, {5, "5x1 5x1 5x1 5x1 5x1", "0:0,0 1:0,1 2:0,2 3:0,3 4:0,4", 5}, {5, "1x5 1x5 1x5 1x5 1x5", "0:0,0 1:1,0 2:2,0 3:3,0 4:4,0", 5}, {1, "9x1 8x1 7x1 1x6 1x5", "0:0,0t 1:0,9t 2:0,17t 3:0,24 4:0,30", 35},
		{1000, "1000x1000 1000x1000 1000x1000 1000x1000 1000x1000", "0:0,0 1:0,1000 2:0,2000 3:0,3000 4:0,4000", 5000}, {1000, "1x1000 1x1000 1x1000 1x1000 1x1000", "0:0,0t 1:0,1t 2:0,2t 3:0,3t 4:0,4t", 5},
	} {
		plates := platesTold(t, c.plates)
		spots, high, code := impl.NestBest(c.width, plates)
		if want := spotsTold(t, c.spots); code != impl.OK || !slices.Equal(spots, want) || high != c.high {
			t.Error("NestBest", c.width, c.plates, spots, high, code, "not", want, c.high)
			continue
		}
		if c.width < 100 {
			checkBest(t, c.width, plates)
		}
	}
}

func TestBestNestsOfAllSmallPlates(t *testing.T) {
	codes := map[int]int{}
	for _, size := range [][2]int{{0, 1}, {1, 6}, {2, 4}, {3, 2}, {4, 2}} {
		for width := 1; width <= 6; width++ {
			eachPlates(size[0], size[1], func(plates []impl.Plate) {
				code := exactBestCode(width, plates)
				codes[code]++
				checkBothNests(t, width, plates, code, code)
				if code == impl.OK {
					checkBest(t, width, plates)
				}
			})
		}
	}
	if codes[impl.OK] < 1000 || codes[impl.ErrRange] < 200 {
		t.Error("codes", codes)
	}
}

func TestBestNestsOfDrawnPlates(t *testing.T) {
	draw := rand.New(rand.NewSource(167))
	turned, stirred, lower := 0, 0, 0
	for _, c := range []struct{ times, count, most, width int }{{600, 3, 6, 9}, {250, 4, 7, 10}, {60, impl.MaxBest, 4, 8}, {60, impl.MaxBest, 8, 12}} {
		for range c.times {
			width := 1 + draw.Intn(c.width)
			plates := drawnPlates(draw, c.count, c.most, width)
			spots, high := checkBest(t, width, plates)
			if _, plain, _ := impl.Nest(width, plates); high < plain {
				lower++
			}
			for i, s := range spots {
				if s.Plate != i {
					stirred++
				}
				if s.Turned && plates[s.Plate].W <= width {
					turned++
				}
			}
		}
	}
	if turned < 100 || stirred < 100 || lower < 100 {
		t.Error("turned", turned, "stirred", stirred, "lower than by Nest", lower)
	}
}

// The height does not hang on the order of the plates, nor on how they are told;
// no order that Nest is given comes out lower.
func TestBestNestsHangOnThePlatesAlone(t *testing.T) {
	draw := rand.New(rand.NewSource(168))
	for range 300 {
		width := 1 + draw.Intn(30)
		plates := drawnPlates(draw, 1+draw.Intn(impl.MaxBest), 20, width)
		_, high, _ := impl.NestBest(width, plates)
		for range 10 {
			draw.Shuffle(len(plates), func(i, j int) { plates[i], plates[j] = plates[j], plates[i] })
			if i := draw.Intn(len(plates)); draw.Intn(2) == 0 {
				plates[i] = plateTurned(plates[i])
			}
			if _, other, code := impl.NestBest(width, plates); code != impl.OK || other != high {
				t.Fatal("NestBest", width, plates, other, code, "not", high)
			}
			if _, plain, code := impl.Nest(width, plates); code != impl.OK || plain < high {
				t.Fatal("Nest", width, plates, plain, code, "but NestBest", high)
			}
		}
	}
}

// Plates that are alike stay in their order, squares are not turned.
func TestBestNestsOfAlikePlates(t *testing.T) {
	draw := rand.New(rand.NewSource(169))
	for range 300 {
		width := 2 + draw.Intn(10)
		kinds := []impl.Plate{{W: 2, H: 2}, {W: 1, H: 1}, {W: 1 + draw.Intn(2), H: 1 + draw.Intn(6)}}
		var plates []impl.Plate
		for range impl.MaxBest {
			plates = append(plates, kinds[draw.Intn(3)])
		}
		spots, _, code := impl.NestBest(width, plates)
		if code != impl.OK {
			t.Fatal("NestBest", width, plates, code)
		}
		for i, s := range spots {
			if p := plates[s.Plate]; p.W == p.H && s.Turned {
				t.Fatal("NestBest", width, plates, spots, "turns a square")
			}
			for _, ahead := range spots[:i] {
				if plates[ahead.Plate] == plates[s.Plate] && ahead.Plate > s.Plate {
					t.Fatal("NestBest", width, plates, spots, "takes a later one of alike plates first")
				}
			}
		}
	}
}

func TestBestNestsOfGreaterPlates(t *testing.T) {
	draw := rand.New(rand.NewSource(170))
	for range 200 {
		width := 1 + draw.Intn(10)
		plates := drawnPlates(draw, draw.Intn(impl.MaxBest+1), 10, width)
		spots, high, _ := impl.NestBest(width, plates)
		times := longest / 10
		for i := range plates {
			plates[i].W, plates[i].H = plates[i].W*times, plates[i].H*times
			spots[i].X, spots[i].Y = spots[i].X*times, spots[i].Y*times
		}
		if got, gotHigh, code := impl.NestBest(width*times, plates); code != impl.OK || !slices.Equal(got, spots) || gotHigh != high*times {
			t.Fatal("NestBest", width*times, plates, got, gotHigh, code, "not", spots, high*times)
		}
	}
}

// checkGiven: a call answers the same again when its answer was written over,
// and neither what it was given nor what stands behind that is another one.
func checkGiven[T comparable](t *testing.T, given []T, behind T, call func([]T) string) {
	t.Helper()
	array := append(slices.Clone(given), behind, behind, behind)
	first := call(array[:len(given)])
	if again := call(array[:len(given)]); again != first {
		t.Error("answers share memory", short(given), first, again)
	}
	if !slices.Equal(array, append(slices.Clone(given), behind, behind, behind)) {
		t.Error("an argument was changed", short(given), short(array))
	}
}

func TestStripAnswersAreNewMemory(t *testing.T) {
	for _, s := range []strip{{}, stripTold(t, "5"), stripTold(t, "4 L3 S2 R1"), stripTold(t, "4 L3 L4 L3 L1"), spiral(40, 21), stairs(41, 5), {allOf(5, impl.MaxList+1), allOf(0, impl.MaxList)}, {[]int{4, 0}, []int{1}}} {
		bent := func(panels, bends []int) string {
			corners, code, panel := impl.Bent(panels, bends)
			length, lengthCode := impl.FlatLength(panels, bends, 3, 1)
			told := fmt.Sprint(corners, code, panel, length, lengthCode)
			spoilAll(corners, at(77, 77))
			return told
		}
		checkGiven(t, s.panels, 77, func(panels []int) string { return bent(panels, s.bends) })
		checkGiven(t, s.bends, 77, func(bends []int) string { return bent(s.panels, bends) })
		corners := points(0, 0, 1, 1)
		if exactStripCode(s) == impl.OK {
			corners = stripped(s)
		}
		checkGiven(t, corners, at(77, 77), func(p []impl.Point) string {
			panels, bends, code := impl.Flat(p)
			told, bendsTold := fmt.Sprint(panels, bends, code), fmt.Sprint(bends)
			spoilAll(panels, 77)
			if fmt.Sprint(bends) != bendsTold {
				t.Error("two lists of one answer share memory", p)
			}
			spoilAll(bends, 77)
			return told
		})
	}
	// one list may be both arguments
	ones := allOf(1, 3)
	if _, code, _ := impl.Bent(ones, ones[:2]); code != impl.OK || !slices.Equal(ones, allOf(1, 3)) {
		t.Error("Bent of one list", ones, code)
	}
}

func TestNestAnswersAreNewMemory(t *testing.T) {
	for _, told := range []string{"", "4x3", "4x3 3x2 2x2 8x1", "1x1 6x1 5x1", "9x9", "2x2 2x2 2x2 2x2 2x2", "2x2 2x2 2x2 2x2 2x2 2x2", "0x1"} {
		checkGiven(t, platesTold(t, told), impl.Plate{W: 77, H: 77}, func(plates []impl.Plate) string {
			spots, high, code := impl.Nest(6, plates)
			best, lowest, bestCode := impl.NestBest(6, plates)
			answers := fmt.Sprint(spots, high, code, best, lowest, bestCode)
			spoilAll(spots, impl.Spot2{Plate: 77})
			spoilAll(best, impl.Spot2{Plate: 77})
			return answers
		})
	}
}

// sheetCalls: calls of every function of the layer, right, at an edge and wrong.
func sheetCalls() []func() string {
	var calls []func() string
	tell := func(call func() string) { calls = append(calls, call) }
	lists := [][]int{nil, {5}, {1, 1}, {4, 3, 2}, {1, 1, 1, 1}, {0, -1, 1}, {1, 1, 1}, {90, 180}, {least, greatest}, allOf(7, 40), make([]int, 39), allOf(1, impl.MaxList+1)}
	for _, panels := range lists {
		for _, bends := range lists {
			tell(func() string { return fmt.Sprint(impl.Bent(panels, bends)) })
			for _, size := range [][2]int{{3, 1}, {0, 0}, {longest, longest}, {-1, 1}, {1, longest + 1}, {least, greatest}} {
				tell(func() string { return fmt.Sprint(impl.FlatLength(panels, bends, size[0], size[1])) })
			}
		}
	}
	for _, p := range [][]impl.Point{nil, points(0, 0), points(0, 0, 4, 0, 4, 3, 2, 3), points(0, 0, 4, 0, 4, 3, 2, 3, 2, 0), points(0, 0, 3, 3), points(greatest, least, least, greatest), make([]impl.Point, 41), make([]impl.Point, impl.MaxList+1)} {
		tell(func() string { return fmt.Sprint(impl.Flat(p)) })
	}
	for _, plates := range [][]impl.Plate{nil, {{W: 4, H: 3}, {W: 3, H: 2}, {W: 2, H: 2}, {W: 8, H: 1}}, {{W: 1, H: 2}, {W: 2, H: 1}, {W: 1, H: 1}}, sameSize(5, 2, 3), sameSize(6, 2, 3), sameSize(100, 1, 2), sameSize(101, 1, 2), sameSize(impl.MaxList+1, 1, 1), make([]impl.Plate, 3), {{W: greatest, H: least}}} {
		for _, width := range []int{6, 1, 2, longest, 0, longest + 1, least, greatest} {
			tell(func() string { return fmt.Sprint(impl.Nest(width, plates)) })
			tell(func() string { return fmt.Sprint(impl.NestBest(width, plates)) })
		}
	}
	return calls
}
