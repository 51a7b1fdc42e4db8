package tests

import (
	"testing"

	"loop.example/g01376/impl"
)

// leakyRoof is that of the example of chapter 3.
func leakyRoof() impl.Roof {
	return roof("x.-", "-.s")
}

// leakyDrips are those of the example of chapter 3.
func leakyDrips() impl.Drips {
	return impl.Drips{{3, 3}, {0, 0, 0, 2, 2}}
}

// TestExampleOfLeaks asserts each clause of the example of chapter 3.
func TestExampleOfLeaks(t *testing.T) {
	unknown, code := impl.WholeRoof(2, 2, 0)
	same(t, "2 by 2 tiles", all(unknown, code), all(roof("..-", "-.."), int64(0)))
	w, code := impl.EvenRain(unknown, 6)
	same(t, "6 on each cell", all(w, code), all(impl.Rain{6, 6, 6, 6, 6}, int64(0)))
	d, code := impl.ReadDrips(unknown, "0:0=3 0:1=3 1:3=2 1:4=2")
	same(t, "the drips", all(d, code), all(leakyDrips(), int64(0)))
	is, code := impl.Explains(leakyRoof(), w, d)
	same(t, "the rows explain them", all(is, code), all(true, int64(0)))
	few, wrong, code := impl.FewestWrong(unknown, w, d)
	same(t, "the fewest wrong tiles", all(few, wrong, code), all(leakyRoof(), int64(2), int64(0)))
	many, code := impl.CountRoofs(unknown, w, d)
	same(t, "no other roof", all(many, code), all(int64(1), int64(0)))
	places, code := impl.SurelyWrong(unknown, w, d)
	same(t, "surely wrong", all(places, code), all([]impl.Place{{}, {Course: 1, Tile: 1}}, int64(0)))
	places, code = impl.FewestRepairs(leakyRoof(), w, 5)
	same(t, "one repair", all(places, code), all([]impl.Place{{}}, int64(0)))
	left, code := impl.DripAfter(leakyRoof(), w, places)
	same(t, "4 left", all(left, code), all(int64(4), int64(0)))
	cases := []impl.Roof{leakyRoof(), unknown}
	for _, cell := range []int{0, 3} {
		var one impl.Rain
		one[cell] = 6
		groups, code := impl.GroupsOf(cases, one)
		same(t, "6 on one cell tell it apart", all(groups, code), all([]int64{0, 1}, int64(0)))
	}
	cell, groups, code := impl.BestCell(cases, 6)
	same(t, "the first such cell", all(cell, groups, code), all(int64(0), int64(2), int64(0)))
}
