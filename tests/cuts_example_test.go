package tests

import (
	"testing"

	"loop.example/g01376/impl"
)

// cutsShape is that of the example of chapter 5, a course from 3 to 30.
func cutsShape(shift uint8) impl.Shape {
	return shape(shift, 3, 30)
}

// TestExampleOfCuts asserts each clause of the example of chapter 5.
func TestExampleOfCuts(t *testing.T) {
	for _, c := range []struct {
		shift       uint8
		whole       int64
		right, left impl.Piece
	}{
		{0, 2, impl.Piece{Hand: impl.HaRight, Wide: 8 - 3}, impl.Piece{Hand: impl.HaLeft, Wide: 30 - 24}},
		{1, 3, impl.Piece{Hand: impl.HaRight, Wide: 4 - 3}, impl.Piece{Hand: impl.HaLeft, Wide: 30 - 28}},
	} {
		list, code := impl.PiecesIn(cutsShape(c.shift), 0)
		same(t, "pieces", all(list, code), all([]impl.Piece{c.right, c.left}, int64(0)))
		whole, code := impl.WholeIn(cutsShape(c.shift))
		same(t, "whole tiles", all(whole, code), all(c.whole, int64(0)))
	}
	list, _ := impl.AllPieces(cutsShape(0))
	same(t, "text", impl.PiecesText(list), "r5 l6")
	list, _ = impl.AllPieces(cutsShape(1))
	same(t, "text of the shifted course", impl.PiecesText(list), "r1 l2")
	many, code := impl.TilesFor(list)
	same(t, "cut of one tile", all(many, code), all(int64(1), int64(0)))
	many, code = impl.LeastTiles(cutsShape(1))
	same(t, "4 tiles", all(many, code), all(int64(4), int64(0)))
	waste, code := impl.WasteOf(cutsShape(1))
	same(t, "5 units of waste", all(waste, code), all(int64(5), int64(0)))

	list, code = impl.ReadPieces("l6 r5 r2 l3")
	same(t, "read", all(list, code), all(pieces("l6 r5 r2 l3"), int64(0)))
	pairs, code := impl.PairPieces(list)
	same(t, "pairs", all(pairs, code), all([][]int64{{0, 2}, {3, 1}}, int64(0)))
	many, code = impl.TilesFor(list)
	same(t, "2 tiles for 4 pieces", all(many, code), all(int64(2), int64(0)))
	many, code = impl.TilesFor(pieces("l6 r5"))
	same(t, "2 tiles for 2 pieces", all(many, code), all(int64(2), int64(0)))
	offcuts, code := impl.OffcutsOf(pieces("l6 r5"))
	same(t, "offcuts", all(impl.PiecesText(offcuts), code), all("r2 l3", int64(0)))
	cover, code := impl.CoverFrom(pieces("r5"), pieces("r7 m4"))
	same(t, "cut of the first one", all(cover, code), all([]int64{0}, int64(0)))
}
