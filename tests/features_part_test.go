package tests

import (
	"fmt"
	"slices"
	"strings"
	"testing"

	"loop.example/g00056/impl"
)

func face(of string, side, area, pieces int, b impl.Box) impl.Face {
	return impl.Face{Feature: of, Side: side, Area: area, Pieces: pieces, Box: b}
}

// boxFaces are the faces of a block that nothing touches.
func boxFaces(of string, b impl.Box) []impl.Face {
	w, d, h := b.X1-b.X0, b.Y1-b.Y0, b.Z1-b.Z0
	return []impl.Face{
		face(of, impl.SdLeft, d*h, 1, box(b.X0, b.Y0, b.Z0, b.X0, b.Y1, b.Z1)),
		face(of, impl.SdRight, d*h, 1, box(b.X1, b.Y0, b.Z0, b.X1, b.Y1, b.Z1)),
		face(of, impl.SdFront, w*h, 1, box(b.X0, b.Y0, b.Z0, b.X1, b.Y0, b.Z1)),
		face(of, impl.SdBack, w*h, 1, box(b.X0, b.Y1, b.Z0, b.X1, b.Y1, b.Z1)),
		face(of, impl.SdBottom, w*d, 1, box(b.X0, b.Y0, b.Z0, b.X1, b.Y1, b.Z0)),
		face(of, impl.SdTop, w*d, 1, box(b.X0, b.Y0, b.Z1, b.X1, b.Y1, b.Z1)),
	}
}

func checkPart(t *testing.T, list []impl.Feature, off []string, order string, volume int, faces []impl.Face) {
	t.Helper()
	part, code, about := impl.Rebuild(list, off)
	want := impl.Part{Order: strings.Fields(order), Volume: volume, Faces: faces}
	if code != impl.OK || len(about) != 0 || !samePart(part, want) {
		t.Errorf("Rebuild %v without %q: %d %q\n%v, not\n%v", list, off, code, about, part, want)
	}
	checkByOracle(t, list, off)
}

func checkFace(t *testing.T, list []impl.Feature, want impl.Face) {
	t.Helper()
	if got, code := impl.FaceOf(list, nil, want.Feature, want.Side); got != want || code != impl.OK {
		t.Errorf("FaceOf %v: %v %d, not %v", list, got, code, want)
	}
}

func checkNoFace(t *testing.T, list []impl.Feature, of string, sides ...int) {
	t.Helper()
	for _, side := range sides {
		if got, code := impl.FaceOf(list, nil, of, side); got != (impl.Face{}) || code != impl.ErrNone {
			t.Errorf("FaceOf %v: %s %d is %v %d", list, of, side, got, code)
		}
	}
}

var allSides = []int{impl.SdLeft, impl.SdRight, impl.SdFront, impl.SdBack, impl.SdBottom, impl.SdTop}

func TestPartOfOneBlock(t *testing.T) {
	checkPart(t, nil, nil, "", 0, nil)
	checkPart(t, []impl.Feature{}, []string{}, "", 0, nil)
	for _, b := range []impl.Box{unit, box(0, 0, 0, 24, 24, 24), box(23, 23, 23, 24, 24, 24), box(1, 2, 3, 4, 6, 9), box(0, 5, 0, 24, 6, 1), box(7, 0, 23, 8, 24, 24)} {
		volume := (b.X1 - b.X0) * (b.Y1 - b.Y0) * (b.Z1 - b.Z0)
		checkPart(t, []impl.Feature{fill("a", b)}, nil, "a", volume, boxFaces("a", b))
		checkPart(t, []impl.Feature{empty("a", b)}, nil, "a", 0, nil)
		checkPart(t, []impl.Feature{fill("a", b)}, []string{"a"}, "", 0, nil)
		checkPart(t, []impl.Feature{fill("a", b), empty("b", b)}, nil, "a b", 0, nil)
		checkPart(t, []impl.Feature{empty("b", b), fill("a", b)}, nil, "b a", volume, boxFaces("a", b))
		checkPart(t, []impl.Feature{fill("a", b), fill("b", b)}, nil, "a b", volume, boxFaces("a", b))
		checkPart(t, []impl.Feature{fill("a", b), empty("b", b), fill("c", b)}, nil, "a b c", volume, boxFaces("c", b))
		checkPart(t, []impl.Feature{fill("a", b), empty("b", b), fill("c", b), empty("d", b), empty("e", b)}, nil, "a b c d e", 0, nil)
	}
}

func TestPartOfSeveralBlocks(t *testing.T) {
	// side by side: where they meet no face is left
	checkPart(t, []impl.Feature{fill("a", box(0, 0, 0, 2, 2, 2)), fill("b", box(2, 0, 0, 3, 2, 2))}, nil, "a b", 12, []impl.Face{
		face("a", impl.SdLeft, 4, 1, box(0, 0, 0, 0, 2, 2)),
		face("a", impl.SdFront, 4, 1, box(0, 0, 0, 2, 0, 2)),
		face("a", impl.SdBack, 4, 1, box(0, 2, 0, 2, 2, 2)),
		face("a", impl.SdBottom, 4, 1, box(0, 0, 0, 2, 2, 0)),
		face("a", impl.SdTop, 4, 1, box(0, 0, 2, 2, 2, 2)),
		face("b", impl.SdRight, 4, 1, box(3, 0, 0, 3, 2, 2)),
		face("b", impl.SdFront, 2, 1, box(2, 0, 0, 3, 0, 2)),
		face("b", impl.SdBack, 2, 1, box(2, 2, 0, 3, 2, 2)),
		face("b", impl.SdBottom, 2, 1, box(2, 0, 0, 3, 2, 0)),
		face("b", impl.SdTop, 2, 1, box(2, 0, 2, 3, 2, 2)),
	})
	// over one another: the later one has just what it filled; told by names, done by the list
	checkPart(t, []impl.Feature{fill("b", box(0, 0, 0, 3, 1, 1)), fill("a", box(1, 0, 0, 4, 1, 1))}, nil, "b a", 4, []impl.Face{
		face("a", impl.SdRight, 1, 1, box(4, 0, 0, 4, 1, 1)),
		face("a", impl.SdFront, 1, 1, box(3, 0, 0, 4, 0, 1)),
		face("a", impl.SdBack, 1, 1, box(3, 1, 0, 4, 1, 1)),
		face("a", impl.SdBottom, 1, 1, box(3, 0, 0, 4, 1, 0)),
		face("a", impl.SdTop, 1, 1, box(3, 0, 1, 4, 1, 1)),
		face("b", impl.SdLeft, 1, 1, box(0, 0, 0, 0, 1, 1)),
		face("b", impl.SdFront, 3, 1, box(0, 0, 0, 3, 0, 1)),
		face("b", impl.SdBack, 3, 1, box(0, 1, 0, 3, 1, 1)),
		face("b", impl.SdBottom, 3, 1, box(0, 0, 0, 3, 1, 0)),
		face("b", impl.SdTop, 3, 1, box(0, 0, 1, 3, 1, 1)),
	})
	one, two := box(0, 0, 0, 2, 3, 1), box(5, 6, 7, 9, 8, 8)
	apart := []impl.Feature{fill("a", one), fill("b", two)}
	checkPart(t, apart, nil, "a b", 14, slices.Concat(boxFaces("a", one), boxFaces("b", two)))
	checkPart(t, apart, []string{"a"}, "b", 8, boxFaces("b", two))
	checkPart(t, apart, []string{"b", "b", "b"}, "a", 6, boxFaces("a", one))
	checkPart(t, apart, []string{"b", "a"}, "", 0, nil)
	// they meet at a corner or in an edge alone: nothing is covered
	for _, far := range [][3]int{{1, 1, 1}, {1, 1, 0}, {0, 1, 1}, {1, 0, 1}} {
		other := boxMoved(unit, far[0], far[1], far[2])
		checkPart(t, []impl.Feature{fill("a", unit), fill("b", other)}, nil, "a b", 2, slices.Concat(boxFaces("a", unit), boxFaces("b", other)))
	}
	// a part of four cells in an L: the second block lies around the corner
	checkPart(t, []impl.Feature{fill("a", box(0, 0, 0, 1, 1, 2)), fill("b", box(0, 0, 0, 3, 1, 1))}, nil, "a b", 4, []impl.Face{
		face("a", impl.SdLeft, 2, 1, box(0, 0, 0, 0, 1, 2)),
		face("a", impl.SdRight, 1, 1, box(1, 0, 1, 1, 1, 2)),
		face("a", impl.SdFront, 2, 1, box(0, 0, 0, 1, 0, 2)),
		face("a", impl.SdBack, 2, 1, box(0, 1, 0, 1, 1, 2)),
		face("a", impl.SdBottom, 1, 1, box(0, 0, 0, 1, 1, 0)),
		face("a", impl.SdTop, 1, 1, box(0, 0, 2, 1, 1, 2)),
		face("b", impl.SdRight, 1, 1, box(3, 0, 0, 3, 1, 1)),
		face("b", impl.SdFront, 2, 1, box(1, 0, 0, 3, 0, 1)),
		face("b", impl.SdBack, 2, 1, box(1, 1, 0, 3, 1, 1)),
		face("b", impl.SdBottom, 2, 1, box(1, 0, 0, 3, 1, 0)),
		face("b", impl.SdTop, 2, 1, box(1, 0, 1, 3, 1, 1)),
	})
}

func TestPartsWithPockets(t *testing.T) {
	cube := box(2, 2, 2, 5, 5, 5)
	outside := boxFaces("a", cube)
	// a hollow: each of its sides is where the filled cell stands
	hollow := box(3, 3, 3, 4, 4, 4)
	inside := boxFaces("p", hollow)
	checkPart(t, []impl.Feature{fill("a", cube), empty("p", hollow)}, nil, "a p", 26, slices.Concat(outside, inside))
	checkPart(t, []impl.Feature{empty("p", hollow), fill("a", cube)}, nil, "p a", 27, outside)
	// through the cube from below: rings at both ends, and no floor
	checkPart(t, []impl.Feature{fill("a", cube), empty("p", box(3, 3, 0, 4, 4, 9))}, nil, "a p", 24, slices.Concat(outside[:4], []impl.Face{
		face("a", impl.SdBottom, 8, 1, box(2, 2, 2, 5, 5, 2)),
		face("a", impl.SdTop, 8, 1, box(2, 2, 5, 5, 5, 5)),
		face("p", impl.SdLeft, 3, 1, box(3, 3, 2, 3, 4, 5)),
		face("p", impl.SdRight, 3, 1, box(4, 3, 2, 4, 4, 5)),
		face("p", impl.SdFront, 3, 1, box(3, 3, 2, 4, 3, 5)),
		face("p", impl.SdBack, 3, 1, box(3, 4, 2, 4, 4, 5)),
	}))
	// beside the cube, and touching it: nothing is changed
	for _, b := range []impl.Box{box(5, 2, 2, 6, 5, 5), box(9, 9, 9, 11, 11, 11), box(0, 0, 0, 24, 24, 2)} {
		list := []impl.Feature{fill("a", cube), empty("p", b)}
		checkPart(t, list, nil, "a p", 27, outside)
		checkNoFace(t, list, "p", allSides...)
	}
	// a corner of it: the pocket has three sides
	list := []impl.Feature{fill("a", cube), empty("p", box(4, 4, 4, 24, 24, 24))}
	checkPart(t, list, nil, "a p", 26, []impl.Face{
		outside[0],
		face("a", impl.SdRight, 8, 1, box(5, 2, 2, 5, 5, 5)),
		outside[2],
		face("a", impl.SdBack, 8, 1, box(2, 5, 2, 5, 5, 5)),
		outside[4],
		face("a", impl.SdTop, 8, 1, box(2, 2, 5, 5, 5, 5)),
		face("p", impl.SdLeft, 1, 1, box(4, 4, 4, 4, 5, 5)),
		face("p", impl.SdFront, 1, 1, box(4, 4, 4, 5, 4, 5)),
		face("p", impl.SdBottom, 1, 1, box(4, 4, 4, 5, 5, 4)),
	})
	// a layer of it: the new top is the pocket's floor
	list = []impl.Feature{fill("a", cube), empty("p", box(0, 0, 4, 24, 24, 24))}
	checkFace(t, list, face("p", impl.SdBottom, 9, 1, box(2, 2, 4, 5, 5, 4)))
	checkNoFace(t, list, "a", impl.SdTop)
	checkNoFace(t, list, "p", impl.SdLeft, impl.SdRight, impl.SdFront, impl.SdBack, impl.SdTop)
}

// A row of three cells, of which the middle one is changed again and again, by
// one feature after another.
func TestCellsChangedAgain(t *testing.T) {
	bar := fill("a", box(0, 0, 0, 3, 1, 1))
	middle := box(1, 0, 0, 2, 1, 1)
	left, right := box(1, 0, 0, 1, 1, 1), box(2, 0, 0, 2, 1, 1)
	// once: the pocket has the squares at both ends of what it emptied
	list := []impl.Feature{bar, empty("p", middle)}
	checkPart(t, list, nil, "a p", 2, []impl.Face{
		face("a", impl.SdLeft, 1, 1, box(0, 0, 0, 0, 1, 1)),
		face("a", impl.SdRight, 1, 1, box(3, 0, 0, 3, 1, 1)),
		face("a", impl.SdFront, 2, 2, box(0, 0, 0, 3, 0, 1)),
		face("a", impl.SdBack, 2, 2, box(0, 1, 0, 3, 1, 1)),
		face("a", impl.SdBottom, 2, 2, box(0, 0, 0, 3, 1, 0)),
		face("a", impl.SdTop, 2, 2, box(0, 0, 1, 3, 1, 1)),
		face("p", impl.SdLeft, 1, 1, left),
		face("p", impl.SdRight, 1, 1, right),
	})
	// twice: the late block has the cell, the first one's pieces are still two
	list = append(list, fill("b", box(0, 0, 0, 3, 1, 1)))
	checkPart(t, list, nil, "a p b", 3, []impl.Face{
		face("a", impl.SdLeft, 1, 1, box(0, 0, 0, 0, 1, 1)),
		face("a", impl.SdRight, 1, 1, box(3, 0, 0, 3, 1, 1)),
		face("a", impl.SdFront, 2, 2, box(0, 0, 0, 3, 0, 1)),
		face("a", impl.SdBack, 2, 2, box(0, 1, 0, 3, 1, 1)),
		face("a", impl.SdBottom, 2, 2, box(0, 0, 0, 3, 1, 0)),
		face("a", impl.SdTop, 2, 2, box(0, 0, 1, 3, 1, 1)),
		face("b", impl.SdFront, 1, 1, box(1, 0, 0, 2, 0, 1)),
		face("b", impl.SdBack, 1, 1, box(1, 1, 0, 2, 1, 1)),
		face("b", impl.SdBottom, 1, 1, box(1, 0, 0, 2, 1, 0)),
		face("b", impl.SdTop, 1, 1, box(1, 0, 1, 2, 1, 1)),
	})
	// thrice: it is the last pocket's
	list = append(list, empty("q", middle), empty("p2", middle))
	checkFace(t, list, face("q", impl.SdLeft, 1, 1, left))
	checkFace(t, list, face("q", impl.SdRight, 1, 1, right))
	checkNoFace(t, list, "q", impl.SdFront, impl.SdBack, impl.SdBottom, impl.SdTop)
	for _, name := range []string{"p", "b", "p2"} {
		checkNoFace(t, list, name, allSides...)
	}
	checkByOracle(t, list, nil)
}

// Between a cell that a block filled and one that a pocket emptied the square
// is of the later one.
func TestWhoseASquareIs(t *testing.T) {
	four := []impl.Feature{fill("a", box(0, 0, 0, 4, 1, 1)), empty("p", box(1, 0, 0, 4, 1, 1)), fill("b", box(3, 0, 0, 4, 1, 1))}
	checkFace(t, four, face("p", impl.SdLeft, 1, 1, box(1, 0, 0, 1, 1, 1)))  // a's cell and p's: p is later
	checkFace(t, four, face("b", impl.SdLeft, 1, 1, box(3, 0, 0, 3, 1, 1)))  // p's cell and b's: b is later
	checkFace(t, four, face("b", impl.SdRight, 1, 1, box(4, 0, 0, 4, 1, 1))) // b's cell and one that none has changed
	checkNoFace(t, four, "p", impl.SdRight, impl.SdTop)
	checkNoFace(t, four, "a", impl.SdRight)
	// later is by the order in which they are done, not by the list: b stands on p, so it comes behind it
	late := []impl.Feature{stand("p", impl.SdLeft, fill("b", box(1, 0, 0, 2, 1, 1))), fill("a", box(0, 0, 0, 4, 1, 1)), empty("p", box(1, 0, 0, 4, 1, 1))}
	checkPart(t, late, nil, "a p b", 2, []impl.Face{
		face("a", impl.SdLeft, 1, 1, box(0, 0, 0, 0, 1, 1)),
		face("a", impl.SdFront, 1, 1, box(0, 0, 0, 1, 0, 1)),
		face("a", impl.SdBack, 1, 1, box(0, 1, 0, 1, 1, 1)),
		face("a", impl.SdBottom, 1, 1, box(0, 0, 0, 1, 1, 0)),
		face("a", impl.SdTop, 1, 1, box(0, 0, 1, 1, 1, 1)),
		face("b", impl.SdLeft, 1, 1, box(2, 0, 0, 2, 1, 1)),
		face("b", impl.SdRight, 1, 1, box(3, 0, 0, 3, 1, 1)),
		face("b", impl.SdFront, 1, 1, box(2, 0, 0, 3, 0, 1)),
		face("b", impl.SdBack, 1, 1, box(2, 1, 0, 3, 1, 1)),
		face("b", impl.SdBottom, 1, 1, box(2, 0, 0, 3, 1, 0)),
		face("b", impl.SdTop, 1, 1, box(2, 0, 1, 3, 1, 1)),
		face("p", impl.SdLeft, 1, 1, box(1, 0, 0, 1, 1, 1)),
	})
	// of two pockets side by side each has its own ends
	pockets := []impl.Feature{fill("a", box(0, 0, 0, 4, 1, 2)), empty("p", box(1, 0, 1, 2, 1, 2)), empty("q", box(2, 0, 1, 3, 1, 2))}
	checkFace(t, pockets, face("p", impl.SdLeft, 1, 1, box(1, 0, 1, 1, 1, 2)))
	checkFace(t, pockets, face("p", impl.SdBottom, 1, 1, box(1, 0, 1, 2, 1, 1)))
	checkFace(t, pockets, face("q", impl.SdRight, 1, 1, box(3, 0, 1, 3, 1, 2)))
	checkFace(t, pockets, face("q", impl.SdBottom, 1, 1, box(2, 0, 1, 3, 1, 1)))
	checkNoFace(t, pockets, "p", impl.SdRight)
	checkNoFace(t, pockets, "q", impl.SdLeft)
	for _, list := range [][]impl.Feature{four, late, pockets} {
		checkByOracle(t, list, nil)
	}
}

func TestRows(t *testing.T) {
	a := fill("a", unit)
	// apart: each side in two pieces, in one plane or in two
	checkPart(t, []impl.Feature{a, again("r", "a", 2, 2, 0, 0)}, nil, "a r", 3, slices.Concat(boxFaces("a", unit), []impl.Face{
		face("r", impl.SdLeft, 2, 2, box(2, 0, 0, 4, 1, 1)),
		face("r", impl.SdRight, 2, 2, box(3, 0, 0, 5, 1, 1)),
		face("r", impl.SdFront, 2, 2, box(2, 0, 0, 5, 0, 1)),
		face("r", impl.SdBack, 2, 2, box(2, 1, 0, 5, 1, 1)),
		face("r", impl.SdBottom, 2, 2, box(2, 0, 0, 5, 1, 0)),
		face("r", impl.SdTop, 2, 2, box(2, 0, 1, 5, 1, 1)),
	}))
	// side by side: the row's squares are together, and part from the block's
	checkPart(t, []impl.Feature{a, again("r", "a", 8, 0, 0, 1)}, nil, "a r", 9, slices.Concat(boxFaces("a", unit)[:5], []impl.Face{
		face("r", impl.SdLeft, 8, 1, box(0, 0, 1, 0, 1, 9)),
		face("r", impl.SdRight, 8, 1, box(1, 0, 1, 1, 1, 9)),
		face("r", impl.SdFront, 8, 1, box(0, 0, 1, 1, 0, 9)),
		face("r", impl.SdBack, 8, 1, box(0, 1, 1, 1, 1, 9)),
		face("r", impl.SdTop, 1, 1, box(0, 0, 9, 1, 1, 9)),
	}))
	// over one another, and over the block itself, backwards
	list := []impl.Feature{fill("a", box(6, 0, 0, 9, 1, 1)), again("r", "a", 3, -2, 0, 0)}
	checkFace(t, list, face("r", impl.SdTop, 6, 1, box(0, 0, 1, 6, 1, 1)))
	checkFace(t, list, face("a", impl.SdTop, 3, 1, box(6, 0, 1, 9, 1, 1)))
	checkNoFace(t, list, "r", impl.SdRight)
	checkByOracle(t, list, nil)
	// pockets: the row empties, and its sides are those of a pocket
	list = []impl.Feature{fill("a", box(0, 0, 0, 7, 3, 2)), empty("p", box(1, 1, 1, 2, 2, 2)), again("r", "p", 2, 2, 0, 0)}
	checkFace(t, list, face("r", impl.SdBottom, 2, 2, box(3, 1, 1, 6, 2, 1)))
	checkFace(t, list, face("r", impl.SdLeft, 2, 2, box(3, 1, 1, 5, 2, 2)))
	checkFace(t, list, face("p", impl.SdBottom, 1, 1, box(1, 1, 1, 2, 2, 1)))
	checkFace(t, list, face("a", impl.SdTop, 18, 1, box(0, 0, 2, 7, 3, 2)))
	checkNoFace(t, list, "r", impl.SdTop)
	checkByOracle(t, list, nil)
	if part, _, _ := impl.Rebuild(list, nil); part.Volume != 39 {
		t.Error("a row of pockets", part)
	}
	// the first box of a row is farther by one step, the last one just reaches the end of space
	list = []impl.Feature{fill("a", box(0, 1, 2, 3, 4, 5)), again("r", "a", 7, 3, 0, 0)}
	checkFace(t, list, face("r", impl.SdFront, 63, 1, box(3, 1, 2, 24, 1, 5)))
	list[1].DX, list[1].Count = 21, 1
	checkFace(t, list, face("r", impl.SdLeft, 9, 1, box(21, 1, 2, 21, 4, 5)))
	// a row of a block that filled nothing fills all the same
	list = []impl.Feature{fill("a", box(0, 0, 0, 2, 2, 2)), fill("b", unit), again("r", "b", 1, 2, 0, 0)}
	checkFace(t, list, face("r", impl.SdRight, 1, 1, box(3, 0, 0, 3, 1, 1)))
	checkNoFace(t, list, "b", allSides...)
	checkPart(t, list, []string{"b"}, "a", 8, boxFaces("a", box(0, 0, 0, 2, 2, 2)))
	checkPart(t, list, []string{"a"}, "b r", 2, slices.Concat(boxFaces("b", unit), boxFaces("r", box(2, 0, 0, 3, 1, 1))))
	// two steps of one row on the same cells
	list = []impl.Feature{fill("a", box(0, 0, 0, 4, 4, 4)), empty("p", box(0, 0, 3, 1, 1, 4)), again("r", "p", 3, 1, 1, 0), again("s", "p", 3, 1, 1, 0)}
	checkNoFace(t, list, "s", allSides...)
	checkFace(t, list, face("r", impl.SdBottom, 3, 3, box(1, 1, 3, 4, 4, 3)))
	checkByOracle(t, list, nil)
}

func TestFacesInPieces(t *testing.T) {
	a := fill("a", unit)
	for _, c := range []struct {
		dx, dy, dz, count int
		want              impl.Face
	}{
		{1, 0, 0, 2, face("r", impl.SdTop, 2, 1, box(1, 0, 1, 3, 1, 1))}, // they share an edge in one plane
		{0, 1, 0, 3, face("r", impl.SdTop, 3, 1, box(0, 1, 1, 1, 4, 1))},
		{1, 1, 0, 2, face("r", impl.SdTop, 2, 2, box(1, 1, 1, 3, 3, 1))}, // at a corner alone
		{1, 1, 0, 2, face("r", impl.SdLeft, 2, 2, box(1, 1, 0, 2, 3, 1))},
		{1, 0, 1, 2, face("r", impl.SdTop, 2, 2, box(1, 0, 2, 3, 1, 3))},   // cells that share an edge: two planes
		{1, 0, 1, 2, face("r", impl.SdRight, 2, 2, box(2, 0, 1, 3, 1, 3))}, // one of each side in the plane between them
		{1, 0, 1, 2, face("r", impl.SdLeft, 2, 2, box(1, 0, 1, 2, 1, 3))},
		{1, 0, 1, 2, face("r", impl.SdFront, 2, 2, box(1, 0, 1, 3, 0, 3))},
		{1, 1, 1, 8, face("r", impl.SdBack, 8, 8, box(1, 2, 1, 9, 9, 9))},
		{0, 0, 2, 3, face("r", impl.SdTop, 3, 3, box(0, 0, 3, 1, 1, 7))}, // above one another
	} {
		list := []impl.Feature{a, again("r", "a", c.count, c.dx, c.dy, c.dz)}
		checkFace(t, list, c.want)
		checkByOracle(t, list, nil)
	}
	// a cross of slots: four pieces, then a bridge over one slot makes them no fewer, since it is another feature's
	plate := []impl.Feature{fill("a", box(0, 0, 0, 5, 5, 2)), empty("p", box(2, 0, 1, 3, 5, 2)), empty("q", box(0, 2, 1, 5, 3, 2))}
	checkFace(t, plate, face("a", impl.SdTop, 16, 4, box(0, 0, 2, 5, 5, 2)))
	checkFace(t, plate, face("p", impl.SdBottom, 5, 1, box(2, 0, 1, 3, 5, 1)))
	checkFace(t, plate, face("q", impl.SdBottom, 4, 2, box(0, 2, 1, 5, 3, 1)))
	checkFace(t, plate, face("p", impl.SdLeft, 4, 2, box(2, 0, 1, 2, 5, 2)))
	plate = append(plate, fill("b", box(2, 0, 1, 3, 1, 2)))
	checkFace(t, plate, face("a", impl.SdTop, 16, 4, box(0, 0, 2, 5, 5, 2)))
	checkFace(t, plate, face("b", impl.SdTop, 1, 1, box(2, 0, 2, 3, 1, 2)))
	checkByOracle(t, plate, nil)
	// a ring is one piece, also around another feature's square
	ring := []impl.Feature{fill("a", box(0, 0, 0, 3, 3, 1)), stand("a", impl.SdTop, fill("b", box(1, 1, 0, 2, 2, 1)))}
	checkFace(t, ring, face("a", impl.SdTop, 8, 1, box(0, 0, 1, 3, 3, 1)))
	checkFace(t, ring, face("b", impl.SdTop, 1, 1, box(1, 1, 2, 2, 2, 2)))
	// a bent piece: its ends meet at a corner, its middle joins them
	bent := []impl.Feature{fill("a", box(0, 0, 0, 2, 2, 1)), fill("b", box(0, 0, 1, 1, 1, 2))}
	checkFace(t, bent, face("a", impl.SdTop, 3, 1, box(0, 0, 1, 2, 2, 1)))
	bent = append(bent, fill("c", box(1, 1, 1, 2, 2, 2)))
	checkFace(t, bent, face("a", impl.SdTop, 2, 2, box(0, 0, 1, 2, 2, 1)))
}

func TestFeaturesThatStand(t *testing.T) {
	base := fill("a", box(2, 3, 4, 5, 6, 7))
	for _, c := range []struct {
		side int
		b    impl.Box
		want impl.Box
	}{
		{impl.SdTop, unit, box(2, 3, 7, 3, 4, 8)},
		{impl.SdBottom, box(0, 0, -1, 1, 1, 0), box(2, 3, 3, 3, 4, 4)},
		{impl.SdLeft, box(-2, 0, 0, 0, 1, 1), box(0, 3, 4, 2, 4, 5)},
		{impl.SdRight, box(0, 1, 1, 19, 2, 2), box(5, 4, 5, 24, 5, 6)},
		{impl.SdFront, box(0, -3, 0, 3, 0, 3), box(2, 0, 4, 5, 3, 7)},
		{impl.SdBack, box(0, 1, 0, 3, 2, 3), box(2, 7, 4, 5, 8, 7)}, // apart from the face
	} {
		list := []impl.Feature{stand("a", c.side, fill("b", c.b)), base}
		part, code, _ := impl.Rebuild(list, nil)
		moved, movedCode, _ := impl.Rebuild([]impl.Feature{base, fill("b", c.want)}, nil)
		if code != impl.OK || movedCode != impl.OK || !samePart(part, moved) {
			t.Error("standing on", c.side, part, code, "not", moved, movedCode)
		}
		checkByOracle(t, list, nil)
		list[0], list[1] = list[1], list[0]
		if part, _, _ := impl.Rebuild(list, nil); !samePart(part, moved) {
			t.Error("listed behind what it stands on", part, "not", moved)
		}
	}
	// a pocket into a face, and one on the floor of another
	deep := []impl.Feature{base, stand("a", impl.SdTop, empty("p", box(1, 1, -1, 2, 2, 0))), stand("p", impl.SdBottom, empty("q", box(0, 0, -1, 1, 1, 0)))}
	checkFace(t, deep, face("q", impl.SdBottom, 1, 1, box(3, 4, 5, 4, 5, 5)))
	checkFace(t, deep, face("q", impl.SdLeft, 1, 1, box(3, 4, 5, 3, 5, 6)))
	checkNoFace(t, deep, "p", impl.SdBottom)
	checkByOracle(t, deep, nil)
	// the face as it is when the feature is done: its lowest numbers go up when a part of it is covered
	worn := []impl.Feature{base, fill("c", box(2, 3, 7, 3, 6, 8)), stand("a", impl.SdTop, fill("b", unit))}
	checkFace(t, worn, face("b", impl.SdTop, 1, 1, box(3, 3, 8, 4, 4, 8)))
	worn[1], worn[2] = worn[2], worn[1]
	checkFace(t, worn, face("b", impl.SdRight, 1, 1, box(3, 3, 7, 3, 4, 8)))
	// on the lowest numbers of a face, where no square of it may lie
	bent := []impl.Feature{fill("a", box(0, 0, 0, 3, 3, 1)), fill("c", box(0, 0, 1, 2, 2, 2)), stand("a", impl.SdTop, fill("b", box(0, 0, 0, 1, 1, 2)))}
	checkFace(t, bent, face("b", impl.SdTop, 1, 1, box(0, 0, 3, 1, 1, 3)))
	// on a row in one piece
	long := []impl.Feature{stand("r", impl.SdTop, fill("b", unit)), again("r", "a", 4, 1, 0, 0), fill("a", unit)}
	checkPart(t, long, []string{"b", "r"}, "a", 1, boxFaces("a", unit))
	checkFace(t, long, face("b", impl.SdLeft, 1, 1, box(1, 0, 1, 1, 1, 2)))
	// Grid and -Grid ahead of being moved
	far := fill("a", box(23, 0, 0, 24, 1, 1))
	checkFace(t, []impl.Feature{far, stand("a", impl.SdRight, fill("b", box(-24, 0, 1, 0, 24, 24)))}, face("b", impl.SdTop, 576, 1, box(0, 0, 24, 24, 24, 24)))
	checkFace(t, []impl.Feature{fill("a", unit), stand("a", impl.SdLeft, fill("b", box(0, 0, 0, 24, 24, 24)))}, face("b", impl.SdRight, 576, 1, box(24, 0, 0, 24, 24, 24)))
	for _, list := range [][]impl.Feature{worn, bent, long} {
		checkByOracle(t, list, nil)
	}
}

func TestFeaturesThatCanNotBeDone(t *testing.T) {
	base := fill("a", box(0, 0, 0, 3, 1, 1))
	top := stand("a", impl.SdTop, fill("x", unit))
	cover := fill("c", box(0, 0, 1, 3, 1, 2))
	slot := fill("s", box(1, 0, 1, 2, 1, 2))
	below := fill("y", box(-1, 0, 0, 1, 1, 1))
	gone := stand("e", impl.SdTop, fill("z", unit))
	for _, c := range []struct {
		list  []impl.Feature
		code  int
		about []string
	}{
		{[]impl.Feature{base, cover, top}, impl.ErrNone, []string{"x", "a"}},
		{[]impl.Feature{top, cover, base}, impl.ErrNone, []string{"x", "a"}},
		{[]impl.Feature{base, empty("p", base.Box), top}, impl.ErrNone, []string{"x", "a"}},
		{[]impl.Feature{base, empty("e", box(5, 5, 5, 6, 6, 6)), gone}, impl.ErrNone, []string{"z", "e"}},
		{[]impl.Feature{base, fill("e", unit), gone}, impl.ErrNone, []string{"z", "e"}},
		{[]impl.Feature{empty("a", unit), top}, impl.ErrNone, []string{"x", "a"}},
		{[]impl.Feature{base, slot, top}, impl.ErrState, []string{"x", "a"}},
		{[]impl.Feature{base, again("r", "a", 2, 0, 2, 0), stand("r", impl.SdBottom, fill("x", unit))}, impl.ErrState, []string{"x", "r"}},
		{[]impl.Feature{base, slot, stand("a", impl.SdTop, fill("x", box(-1, 0, 0, 1, 1, 1)))}, impl.ErrState, []string{"x", "a"}},  // ahead of its box
		{[]impl.Feature{base, cover, stand("a", impl.SdTop, empty("x", box(-1, 0, 0, 1, 1, 1)))}, impl.ErrNone, []string{"x", "a"}}, // ahead of its box
		{[]impl.Feature{below}, impl.ErrRange, []string{"y"}},
		{[]impl.Feature{below, base, cover, top}, impl.ErrRange, []string{"y"}},
		{[]impl.Feature{base, cover, top, below}, impl.ErrNone, []string{"x", "a"}},
		{[]impl.Feature{empty("y", box(0, -24, 0, 1, -23, 1))}, impl.ErrRange, []string{"y"}},
		{[]impl.Feature{fill("y", box(0, 0, -1, 1, 1, 24))}, impl.ErrRange, []string{"y"}},
		{[]impl.Feature{base, stand("a", impl.SdLeft, fill("x", box(-1, 0, 0, 1, 1, 1)))}, impl.ErrRange, []string{"x"}},
		{[]impl.Feature{base, stand("a", impl.SdRight, fill("x", box(0, 0, 0, 22, 1, 1)))}, impl.ErrRange, []string{"x"}},
		{[]impl.Feature{base, stand("a", impl.SdFront, empty("x", box(0, 0, -1, 1, 1, 1)))}, impl.ErrRange, []string{"x"}},
		{[]impl.Feature{base, stand("a", impl.SdBack, empty("x", box(0, 0, 0, 1, 24, 1)))}, impl.ErrRange, []string{"x"}},
		{[]impl.Feature{base, stand("a", impl.SdTop, empty("x", box(0, 0, 0, 1, 1, 24)))}, impl.ErrRange, []string{"x"}},
		{[]impl.Feature{base, stand("a", impl.SdTop, empty("x", box(-24, -24, -24, 24, 24, 24)))}, impl.ErrRange, []string{"x"}},
		{[]impl.Feature{base, again("r", "a", 1, -1, 0, 0)}, impl.ErrRange, []string{"r"}},
		{[]impl.Feature{base, again("r", "a", 1, 22, 0, 0)}, impl.ErrRange, []string{"r"}},
		{[]impl.Feature{base, again("r", "a", 8, 3, 0, 0)}, impl.ErrRange, []string{"r"}},
		{[]impl.Feature{base, again("r", "a", 8, 0, 3, 0)}, impl.ErrRange, []string{"r"}},
		{[]impl.Feature{base, again("r", "a", 1, 24, 0, 0)}, impl.ErrRange, []string{"r"}},
		{[]impl.Feature{base, again("r", "a", 8, -24, 24, -24)}, impl.ErrRange, []string{"r"}},
		{[]impl.Feature{empty("a", box(20, 20, 20, 21, 21, 21)), again("r", "a", 4, 0, 1, 1)}, impl.ErrRange, []string{"r"}},
		{[]impl.Feature{base, again("r", "a", 8, 0, 0, 3), below}, impl.ErrRange, []string{"r"}},
	} {
		if _, code, _ := impl.FeatureOrder(c.list); code != impl.OK {
			t.Error("FeatureOrder", c.list, code)
		}
		checkNotBuilt(t, c.list, nil, c.code, c.about...)
		checkByOracle(t, c.list, nil)
		checkNotBuilt(t, c.list, []string{"no"}, impl.ErrName, "no")
		checkNotBuilt(t, c.list, []string{c.list[0].Name, "", "no", c.list[0].Name}, impl.ErrName, "")
		// what is left out is not done, and so not in the way
		var all []string
		for _, f := range c.list {
			all = append(all, f.Name)
		}
		checkPart(t, c.list, all, "", 0, nil)
	}
}

func TestWhatIsLeftOut(t *testing.T) {
	tower := []impl.Feature{
		stand("c", impl.SdTop, fill("d", unit)), stand("b", impl.SdTop, fill("c", unit)), stand("a", impl.SdTop, fill("b", unit)), fill("a", unit),
		fill("e", box(9, 9, 9, 10, 10, 10)), again("r", "e", 2, 0, 0, 1), stand("r", impl.SdTop, fill("f", unit)), stand("e", impl.SdLeft, fill("g", box(-1, 0, 0, 0, 1, 1))),
	}
	for _, c := range []struct {
		off, order string
		volume     int
	}{
		{"", "a b c d e r f g", 9},
		{"d", "a b c e r f g", 8},
		{"c", "a b e r f g", 7},
		{"b", "a e r f g", 6},
		{"a", "e r f g", 5},
		{"e", "a b c d", 4},
		{"r", "a b c d e g", 6},
		{"f", "a b c d e r g", 8},
		{"g", "a b c d e r f", 8},
		{"r g", "a b c d e", 5},
		{"d a d", "e r f g", 5},
		{"a e", "", 0},
		{"g f r e d c b a", "", 0},
	} {
		part, code, about := impl.Rebuild(tower, strings.Fields(c.off))
		if code != impl.OK || len(about) != 0 || strings.Join(part.Order, " ") != c.order || part.Volume != c.volume {
			t.Error("without", c.off, part, code, about, "not", c.order, c.volume)
		}
		checkByOracle(t, tower, strings.Fields(c.off))
	}
	long := strings.Repeat("n", impl.MaxText+1)
	for _, c := range []struct{ off, about []string }{
		{[]string{"A"}, []string{"A"}}, {[]string{""}, []string{""}}, {[]string{"a", "h", "i"}, []string{"h"}}, {[]string{"a", "a", "9"}, []string{"9"}}, {[]string{"a", long, "i"}, []string{long}}, {[]string{"a\x00"}, []string{"a\x00"}},
	} {
		checkNotBuilt(t, tower, c.off, impl.ErrName, c.about...)
	}
	// what can not be done does not matter where it is left out, or what it stands on is
	wrong := append(slices.Clone(tower), stand("d", impl.SdBottom, fill("x", unit)), fill("y", box(-1, 0, 0, 1, 1, 1)))
	checkNotBuilt(t, wrong, nil, impl.ErrNone, "x", "d")
	checkNotBuilt(t, wrong, []string{"y"}, impl.ErrNone, "x", "d")
	for _, off := range []string{"x", "d", "c", "a"} {
		checkNotBuilt(t, wrong, []string{off}, impl.ErrRange, "y")
		if part, code, _ := impl.Rebuild(wrong, []string{off, "y"}); code != impl.OK || part.Volume == 0 {
			t.Error("without", off, "and y", part, code)
		}
	}
}

func TestManyLeftOut(t *testing.T) {
	list := []impl.Feature{fill("a", unit), fill("b", box(2, 2, 2, 3, 3, 3))}
	off := slices.Repeat([]string{"a"}, impl.MaxList)
	checkPart(t, list, off, "b", 1, boxFaces("b", box(2, 2, 2, 3, 3, 3)))
	checkNotBuilt(t, list, append(slices.Clone(off), "a"), impl.ErrLong)
	checkNotBuilt(t, list, append([]string{"no"}, off...), impl.ErrLong)
	checkNotBuilt(t, nil, append(slices.Clone(off), "a"), impl.ErrLong)
	checkNotBuilt(t, manyFeatures(31), append(slices.Clone(off), "a"), impl.ErrLong)
	checkNotBuilt(t, manyFeatures(31), off, impl.ErrMany)
	checkNotBuilt(t, []impl.Feature{{}}, append(slices.Clone(off), "a"), impl.ErrLong)
	checkNotBuilt(t, []impl.Feature{{}}, off, impl.ErrBad, "")
	checkNotBuilt(t, manyFeatures(impl.MaxList+1), nil, impl.ErrLong)
}

func TestFaceOfNone(t *testing.T) {
	list := []impl.Feature{fill("a", unit), fill("b", unit), fill("c", box(0, 0, 1, 1, 1, 2))}
	for _, side := range []int{least, -6, -1, 0, 7, 8, 1 << 32, 1<<32 + 1, greatest} {
		checkNoFace(t, list, "a", side)
	}
	checkNoFace(t, list, "a", impl.SdTop)
	checkNoFace(t, list, "c", impl.SdBottom)
	for _, name := range []string{"", "A", "no", "a ", "\xff", "b", strings.Repeat("a", impl.MaxText)} {
		checkNoFace(t, list, name, allSides...)
		checkNoFace(t, nil, name, allSides...)
	}
	if got, code := impl.FaceOf(list, []string{"a"}, "a", impl.SdLeft); got != (impl.Face{}) || code != impl.ErrNone {
		t.Error("a face of what is left out", got, code)
	}
	if got, code := impl.FaceOf(list, []string{"a"}, "b", impl.SdLeft); got != boxFaces("b", unit)[0] || code != impl.OK {
		t.Error("a face that came", got, code)
	}
	long := strings.Repeat("a", impl.MaxText+1)
	for _, other := range [][]impl.Feature{nil, list, manyFeatures(31), features("a on b"), {{}}} {
		for _, off := range [][]string{nil, {"a"}, {"no"}} {
			if got, code := impl.FaceOf(other, off, long, impl.SdLeft); got != (impl.Face{}) || code != impl.ErrLong {
				t.Error("a long name", got, code)
			}
		}
	}
}

func TestSections(t *testing.T) {
	blank := strings.Repeat(".", impl.Grid)
	list := []impl.Feature{fill("a", box(0, 1, 0, 3, 3, 2)), empty("p", box(1, 0, 1, 2, 2, 24)), fill("b", box(20, 23, 23, 24, 24, 24))}
	for _, c := range []struct {
		z    int
		rows map[int]string
	}{
		{0, map[int]string{1: "###.....................", 2: "###....................."}},
		{1, map[int]string{1: "#.#.....................", 2: "###....................."}},
		{2, nil},
		{22, nil},
		{23, map[int]string{23: "....................####"}},
	} {
		rows, code := impl.Section(list, nil, c.z)
		if code != impl.OK || len(rows) != impl.Grid {
			t.Fatal("Section", c.z, rows, code)
		}
		for y, row := range rows {
			want, there := c.rows[y]
			if !there {
				want = blank
			}
			if row != want {
				t.Error("Section", c.z, "at", y, row, "not", want)
			}
		}
	}
	for _, z := range []int{least, -24, -1, 24, 25, 1 << 32, greatest} {
		if rows, code := impl.Section(list, nil, z); len(rows) != 0 || code != impl.ErrRange {
			t.Error("Section", z, rows, code)
		}
		if rows, code := impl.Section(nil, nil, z); len(rows) != 0 || code != impl.ErrRange {
			t.Error("Section of none", z, rows, code)
		}
		if rows, code := impl.Section(list, []string{"no"}, z); len(rows) != 0 || code != impl.ErrName {
			t.Error("Section", z, rows, code)
		}
	}
	for _, none := range [][]impl.Feature{nil, {fill("a", unit), empty("p", unit)}} {
		if rows, code := impl.Section(none, nil, 0); code != impl.OK || !slices.Equal(rows, slices.Repeat([]string{blank}, impl.Grid)) {
			t.Error("Section of no cell", rows, code)
		}
	}
	full := []impl.Feature{fill("a", box(0, 0, 0, 24, 24, 24))}
	for z := range impl.Grid {
		if rows, code := impl.Section(full, nil, z); code != impl.OK || !slices.Equal(rows, slices.Repeat([]string{strings.Repeat("#", impl.Grid)}, impl.Grid)) {
			t.Error("Section of all cells", z, rows, code)
		}
	}
	checkByOracle(t, list, nil)
}

func TestFeatureAnswersAreNewMemory(t *testing.T) {
	behind := fill("behind", box(77, 77, 77, 77, 77, 77))
	for _, features := range [][]impl.Feature{
		nil, {fill("a", unit)}, {fill("a", unit), fill("a", unit)}, features("a on b", "b on a"), features("a", "b of a", "c on b"), features("a on b"), {fill("a", box(-1, 0, 0, 1, 1, 1))},
	} {
		for _, out := range [][]string{nil, {"a"}, {"b", "b"}} {
			array := append(slices.Clone(features), behind, behind, behind)
			offArray := append(slices.Clone(out), "behind", "behind", "behind")
			list, off := array[:len(features)], offArray[:len(out)]
			all := func() string {
				order, code, about := impl.FeatureOrder(list)
				part, partCode, partAbout := impl.Rebuild(list, off)
				face, faceCode := impl.FaceOf(list, off, "a", impl.SdTop)
				rows, rowsCode := impl.Section(list, off, 0)
				told := fmt.Sprint(order, code, about, part, partCode, partAbout, face, faceCode, rows, rowsCode)
				for _, texts := range [][]string{order, about, part.Order, partAbout, rows} {
					for i := range texts[:cap(texts)] {
						texts[:cap(texts)][i] = "spoilt"
					}
				}
				for i := range part.Faces[:cap(part.Faces)] {
					part.Faces[:cap(part.Faces)][i] = impl.Face{Feature: "spoilt"}
				}
				return told
			}
			first := all()
			if again := all(); again != first {
				t.Error("answers share memory", features, out, first, again)
			}
			if !slices.Equal(array, append(slices.Clone(features), behind, behind, behind)) || !slices.Equal(offArray, append(slices.Clone(out), "behind", "behind", "behind")) {
				t.Error("an argument was changed", features, out, array, offArray)
			}
		}
	}
}

// featureCalls: calls of every function of the layer, right, at an edge and wrong.
func featureCalls() []func() string {
	var calls []func() string
	tell := func(call func() string) { calls = append(calls, call) }
	for _, list := range [][]impl.Feature{
		nil, {{}}, features("a"), features("b on r", "r of a", "c on b", "a"), features("a on b", "b on a"), features("a", "a"), features("a of b"), manyFeatures(30), manyFeatures(31), manyFeatures(impl.MaxList + 1),
		{fill("a", box(0, 0, 0, 9, 9, 9)), empty("p", box(1, 1, 1, 2, 9, 9)), again("r", "p", 3, 2, 0, 0), stand("r", impl.SdBottom, fill("b", unit))},
		{fill("a", box(0, 0, 0, 9, 9, 9)), empty("p", box(1, 1, 1, 2, 9, 9)), again("r", "p", 3, 2, 0, 0), stand("p", impl.SdBottom, fill("b", unit))},
		{fill("a", box(-24, 0, 0, 24, 1, 1))}, {withNumber(fill("a", unit), countField, least)}, {again("a", "a", greatest, least, greatest, 0)},
	} {
		tell(func() string { return fmt.Sprint(impl.FeatureOrder(list)) })
		for _, off := range [][]string{nil, {"a"}, {"r"}, {"no"}, slices.Repeat([]string{"a"}, impl.MaxList+1)} {
			tell(func() string { return fmt.Sprint(impl.Rebuild(list, off)) })
			for _, n := range []int{least, -1, 0, 1, 6, 7, 24, greatest} {
				tell(func() string { return fmt.Sprint(impl.FaceOf(list, off, "a", n)) })
				tell(func() string { return fmt.Sprint(impl.Section(list, off, n)) })
			}
		}
	}
	return calls
}
