package tests

import (
	"testing"

	"loop.example/g01376/impl"
)

// TestExampleOfRoofs asserts each clause of the example of chapter 1.
func TestExampleOfRoofs(t *testing.T) {
	r, code := impl.ReadRoof("x.-\n-xo\n..-\n")
	same(t, "the roof", all(r, code), all(exampleRoof(), int64(0)))
	patches, code := impl.PatchesOf(r, impl.TiCracked)
	same(t, "one patch", all(patches, code), all([][]impl.Place{{{Course: 0, Tile: 0}, {Course: 1, Tile: 0}}}, int64(0)))
	cells, code := impl.CellsOf(r, impl.Place{Course: 0, Tile: 0})
	same(t, "cells of 0, 0", all(cells, code), all([]int64{0, 1}, int64(0)))
	cells, code = impl.CellsOf(r, impl.Place{Course: 1, Tile: 0})
	same(t, "cells of 1, 0", all(cells, code), all([]int64{1, 2}, int64(0)))
	above, code := impl.AboveOf(r, impl.Place{Course: 1, Tile: 0})
	same(t, "over 1, 0", all(above, code), all([]impl.Place{{Course: 0, Tile: 0}, {Course: 0, Tile: 1}}, int64(0)))
	above, code = impl.AboveOf(r, impl.Place{Course: 2, Tile: 0})
	same(t, "over 2, 0", all(above, code), all([]impl.Place{{Course: 1, Tile: 0}}, int64(0)))
	run, long, code := impl.LongestRun(r, impl.TiWhole)
	same(t, "longest run", all(run, long, code), all(impl.Place{Course: 2, Tile: 0}, int64(2), int64(0)))
	mirror, code := impl.MirrorRoof(r)
	same(t, "mirrored", all(impl.RoofText(mirror), code), all("-.x\nox-\n-..\n", int64(0)))
	tile, code := impl.TileAt(r, 0, 4)
	same(t, "half tile", all(tile, code), all(int64(-1), int64(0)))
}
