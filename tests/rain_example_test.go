package tests

import (
	"testing"

	"loop.example/g01376/impl"
)

// rainyRoof is that of the example of chapter 2.
func rainyRoof() impl.Roof {
	return roof("x.-", "-so", "o.-")
}

// TestExampleOfRain asserts each clause of the example of chapter 2.
func TestExampleOfRain(t *testing.T) {
	r, code := impl.ReadRoof("x.-\n-so\no.-\n")
	same(t, "the roof", all(r, code), all(rainyRoof(), int64(0)))
	w, code := impl.EvenRain(r, 7)
	same(t, "7 on each cell", all(w, code), all(impl.Rain{7, 7, 7, 7, 7}, int64(0)))
	sum, code := impl.RainSum(r, w)
	same(t, "35 in all", all(sum, code), all(int64(35), int64(0)))
	drips, gutter, code := impl.RunDown(r, w)
	same(t, "course 0", drips[0], [17]int32{4, 4})
	same(t, "course 1", drips[1], [17]int32{0, 1, 3, 7, 7})
	same(t, "course 2", drips[2], [17]int32{3, 0})
	same(t, "no other course", [5][17]int32(drips[3:]), [5][17]int32{})
	same(t, "gutter", all(gutter, code), all([]int64{0, 2, 4, 0, 0}, int64(0)))
	sum, code = impl.DripSum(r, w)
	same(t, "29 drip", all(sum, code), all(int64(29), int64(0)))
	course, cell, code := impl.FirstDrip(r, w)
	same(t, "first drip", all(course, cell, code), all(int64(0), int64(0), int64(0)))
	best, less, code := impl.BestSave(r, w)
	same(t, "best save", all(best, less, code), all(impl.Place{Course: 1, Tile: 1}, int64(14), int64(0)))
}
