package tests

import (
	"testing"

	"loop.example/g01376/impl"
)

// exampleGutter is that of the example of chapter 6.
func exampleGutter() impl.Gutter {
	return gutter(10, "21012", ".....", 2, 3)
}

// TestExampleOfGutters asserts each clause of the example of chapter 6.
func TestExampleOfGutters(t *testing.T) {
	g, code := impl.ReadGutter("5 10\n21012\n.....\n2 3\n")
	same(t, "read", all(g, code), all(exampleGutter(), int64(0)))
	flows, code := impl.FlowsTo(g)
	same(t, "flows", all(flows, code), all([]int64{1, 2, -1, 2, 3}, int64(0)))

	rain := evenly(1, 5)
	w, taken, over, code := impl.MinuteOnce(g, impl.Water{}, rain)
	same(t, "the first minute", all(w, taken, over, code), all(water(0, 1, 2, 1, 0), int64(1), int64(0), int64(0)))
	for minute := int64(1); minute < 5; minute++ {
		w, taken, over, code = impl.MinuteOnce(g, w, rain)
		same(t, "each minute", all(w, taken, over, code), all(water(0, 1, int32(2+2*minute), 1, 0), int64(3), int64(0), int64(0)))
	}
	w, taken, over, code = impl.MinuteOnce(g, w, rain)
	same(t, "the minute 5", all(w, taken, over, code), all(water(0, 1, 10, 1, 0), int64(3), int64(2), int64(0)))
	first, code := impl.FirstOver(g, rain)
	same(t, "the first minute in which something runs over", all(first, code), all(int64(5), int64(0)))

	leafy := g
	leafy.Leaves = 1 << 1
	list, code := impl.Undrained(leafy)
	same(t, "undrained with leaves in the cell 1", all(list, code), all([]int64{0, 1}, int64(0)))
	takes, code := impl.LeastTakes(g, rain, 0)
	same(t, "the least number for the pipe", all(takes, code), all(int64(5), int64(0)))
}
