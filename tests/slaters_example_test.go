package tests

import (
	"testing"

	"loop.example/g01376/impl"
)

// slatersRoof is that of the example of chapter 4.
func slatersRoof() impl.Roof {
	return roof("x.-", "-so", "o.-")
}

// TestExampleOfSlaters asserts each clause of the example of chapter 4.
func TestExampleOfSlaters(t *testing.T) {
	r := slatersRoof()
	first, second, low := impl.Place{}, impl.Place{Course: 1, Tile: 1}, impl.Place{Course: 1}
	places, code := impl.ReachFrom(r, 2, 0)
	same(t, "reached from the cell 2", all(places, code), all([]impl.Place{{Tile: 1}, {Course: 1}, {Course: 2, Tile: 1}}, int64(0)))
	both := []impl.Place{first, second}
	cells, code := impl.FewestLadders(r, 1, both)
	same(t, "one ladder", all(cells, code), all([]int64{2}, int64(0)))
	for at, want := range map[impl.Place][]int64{first: {0, 1}, second: {3, 4}} {
		covers, code := impl.CellsOf(r, at)
		same(t, "their cells", all(covers, code), all(want, int64(0)))
	}
	rungs, code := impl.ClimbTo(r, first)
	same(t, "3 rungs", all(rungs, code), all(int64(3), int64(0)))
	rungs, code = impl.ClimbsFor(r, both, 1)
	same(t, "both, with 1 tile at once", all(rungs, code), all(int64(10), int64(0)))
	rungs, code = impl.ClimbsFor(r, both, 2)
	same(t, "both, with 2 tiles at once", all(rungs, code), all(int64(6), int64(0)))
	upward, code := impl.FirstUpward(r, []impl.Place{first, low})
	same(t, "the upward order", all(upward, code), all([]impl.Place{low, first}, int64(0)))
	cost, code := impl.LiftedFor(r, []impl.Place{low, first})
	same(t, "2 tiles are lifted", all(cost, code), all(int64(2), int64(0)))
	above, code := impl.AboveOf(r, low)
	same(t, "those over 1, 0", all(above, code), all([]impl.Place{first, {Tile: 1}}, int64(0)))
	cost, code = impl.LiftedFor(r, []impl.Place{first, low})
	same(t, "0, 0 lies fast", all(cost, code), all(int64(3), int64(0)))
	days, many, code := impl.FewestDays([]int64{3, 4, 3}, 6)
	same(t, "two days", all(days, many, code), all([]int64{0, 1, 0}, int64(2), int64(0)))
}
