package tests

import (
	"testing"

	"loop.example/g01376/impl"
)

// TestExampleOfYears asserts each clause of the example of chapter 7.
func TestExampleOfYears(t *testing.T) {
	r := roof("..-")
	a := impl.Ages{{3, 7}}
	first, code := impl.FirstBreak(r, a, 10)
	same(t, "the first break", all(first, code), all(int64(4), int64(0)))
	later, code := impl.Later(r, a, 4)
	same(t, "4 years later", all(later, code), all(impl.Ages{{7, 11}}, int64(0)))
	old, code := impl.TooOld(r, later, 10)
	same(t, "11 is too old", all(old, code), all([]impl.Place{{Tile: 1}}, int64(0)))

	visits, code := impl.VisitsFor(r, a, 10, 30)
	same(t, "visits for 30 years", all(visits, code), all([]int64{3, 13, 23}, int64(0)))
	counts, code := impl.ReplacedAt(r, a, 10, 30)
	same(t, "both are replaced at each one", all(counts, code), all([]int64{2, 2, 2}, int64(0)))
	visits, code = impl.VisitsFor(r, a, 10, 5)
	same(t, "visits for 5 years", all(visits, code), all([]int64{3}, int64(0)))
	counts, code = impl.ReplacedAt(r, a, 10, 5)
	same(t, "one is replaced", all(counts, code), all([]int64{1}, int64(0)))
	end, code := impl.Later(r, a, 5)
	same(t, "the other one at the end", all(end[0][0], code), all(uint8(8), int64(0)))

	wide := roof("...-", "-...")
	c, code := impl.MakePattern(wide, "rb", 1)
	same(t, "the pattern", all(c, code), all(impl.Colours{0b101, 0b010}, int64(0)))
	same(t, "its text", impl.ColoursText(wide, c), "rbr\nbrb\n")
}
