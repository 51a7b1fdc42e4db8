package tests

import (
	"fmt"
	"math"
	"regexp"
	"slices"
	"strings"
	"testing"

	"loop.example/g01376/impl"
)

func TestConstantsOfGutters(t *testing.T) {
	same(t, "limits", [5]int{impl.MaxGutter, impl.MaxHeight, impl.MaxDeep, impl.MaxPipes, impl.MaxMinutes}, [5]int{17, 9, 1000, 4, 200})
}

// edgeGutters has gutters that are as small, as large, as deep, as high, and with as many pipes that take as much, as can be.
func edgeGutters() []impl.Gutter {
	const nines, leaves, none = "99999999999999999", "lllllllllllllllll", "................."
	return []impl.Gutter{
		gutter(0, "0", "."),
		gutter(1000, "0", "."),
		gutter(0, "9", "l"),
		gutter(1000, "9", "l", 0, 1000),
		gutter(5, "5", ".", 0, 0),
		gutter(0, nines, none),
		gutter(1000, nines, leaves),
		gutter(1000, strings.Repeat("0", 17), leaves, 0, 1000, 1, 1000, 15, 1000, 16, 1000),
		gutter(10, "90909090909090909", none, 3, 0, 7, 1000, 8, 5, 16, 1),
		gutter(10, "01234567899876543", "l...............l", 0, 3, 16, 4),
		gutter(10, "98765432101234567", none, 8, 17),
	}
}

func TestValidGutter(t *testing.T) {
	for _, g := range append(edgeGutters(), sampleGutters(71, 40)...) {
		same(t, fmt.Sprint("valid: ", g), impl.ValidGutter(g), true)
	}
	for what, bad := range badGutters() {
		same(t, "valid with "+what, impl.ValidGutter(bad), false)
	}
}

// TestRangesOfGutters has each number of each field near its bounds.
func TestRangesOfGutters(t *testing.T) {
	for number := math.MinInt8; number <= math.MaxInt8; number++ {
		k := int8(number)
		same(t, fmt.Sprint("cells ", k), impl.ValidGutter(impl.Gutter{Cells: k}), 1 <= k && k <= 17)
		same(t, fmt.Sprint("height ", k), impl.ValidGutter(impl.Gutter{Cells: 2, Heights: [17]int8{1: k}}), 0 <= k && k <= 9)
		same(t, fmt.Sprint("height of no cell ", k), impl.ValidGutter(impl.Gutter{Cells: 2, Heights: [17]int8{2: k}}), k == 0)
		same(t, fmt.Sprint("pipe at ", k), impl.ValidGutter(impl.Gutter{Cells: 9, Pipes: []impl.Pipe{{At: k}}}), 0 <= k && k < 9)
		same(t, fmt.Sprint("pipe at 3 and at ", k), impl.ValidGutter(impl.Gutter{Cells: 9, Pipes: []impl.Pipe{{At: 3}, {At: k}}}), 3 < k && k < 9)
	}
	for number := math.MinInt16; number <= math.MaxInt16; number++ {
		k := int16(number)
		same(t, fmt.Sprint("deep ", k), impl.ValidGutter(impl.Gutter{Cells: 1, Deep: k}), 0 <= k && k <= 1000)
		same(t, fmt.Sprint("takes ", k), impl.ValidGutter(impl.Gutter{Cells: 1, Pipes: []impl.Pipe{{Takes: k}}}), 0 <= k && k <= 1000)
	}
	for cells := 1; cells <= 17; cells++ {
		for bit := range 32 {
			same(t, fmt.Sprint("leaves ", bit, " of ", cells), impl.ValidGutter(impl.Gutter{Cells: int8(cells), Leaves: 1 << bit}), bit < cells)
		}
		for many := range 7 {
			g := impl.Gutter{Cells: int8(cells)}
			for at := range many {
				g.Pipes = append(g.Pipes, impl.Pipe{At: int8(at)})
			}
			same(t, fmt.Sprint("pipes ", many, " of ", cells), impl.ValidGutter(g), many <= min(cells, 4))
		}
	}
}

func TestSameGutter(t *testing.T) {
	g := changedGutter(func(g *impl.Gutter) {})
	same(t, "as itself", impl.SameGutter(g, changedGutter(func(g *impl.Gutter) {})), true)
	for what, change := range map[string]func(g *impl.Gutter){
		"cells":         func(g *impl.Gutter) { g.Cells = 6 },
		"deep":          func(g *impl.Gutter) { g.Deep = 11 },
		"a height":      func(g *impl.Gutter) { g.Heights[4] = 3 },
		"no cell":       func(g *impl.Gutter) { g.Heights[16] = 1 },
		"leaves":        func(g *impl.Gutter) { g.Leaves = 0 },
		"the last bit":  func(g *impl.Gutter) { g.Leaves |= 1 << 31 },
		"no pipes":      func(g *impl.Gutter) { g.Pipes = nil },
		"a pipe less":   func(g *impl.Gutter) { g.Pipes = g.Pipes[:1] },
		"a pipe more":   func(g *impl.Gutter) { g.Pipes = append(g.Pipes, impl.Pipe{}) },
		"a pipe beside": func(g *impl.Gutter) { g.Pipes[1].At = 3 },
		"what it takes": func(g *impl.Gutter) { g.Pipes[1].Takes = 2 },
		"their order":   func(g *impl.Gutter) { slices.Reverse(g.Pipes) },
	} {
		same(t, "other than with another "+what, impl.SameGutter(g, changedGutter(change)), false)
		same(t, "with another "+what, impl.SameGutter(changedGutter(change), g), false)
		same(t, "both with another "+what, impl.SameGutter(changedGutter(change), changedGutter(change)), true)
	}
	same(t, "nil pipes and empty ones", impl.SameGutter(impl.Gutter{}, impl.Gutter{Pipes: []impl.Pipe{}}), true)
	for what, bad := range badGutters() {
		same(t, "as itself with "+what, impl.SameGutter(bad, bad), true)
		same(t, "a valid one and one with "+what, impl.SameGutter(g, bad), false)
	}
}

func TestValidWater(t *testing.T) {
	n := numbers(72)
	for _, g := range append(edgeGutters(), sampleGutters(73, 20)...) {
		same(t, "empty", impl.ValidWater(g, impl.Water{}), true)
		w := someWater(&n, g)
		same(t, fmt.Sprint(w, " in ", g), impl.ValidWater(g, w), true)
		for cell := range 17 {
			for _, amount := range []int32{-1, 0, 1, int32(g.Deep), int32(g.Deep) + 1, math.MinInt32, math.MaxInt32} {
				c := gutterCase{g: g, w: w}
				c.w[cell] = amount
				same(t, fmt.Sprint(c.w, " in ", g), impl.ValidWater(g, c.w), c.hasWater())
			}
		}
	}
	for _, bad := range badWaters() {
		same(t, fmt.Sprint("valid: ", bad), impl.ValidWater(exampleGutter(), bad), false)
	}
	for what, bad := range badGutters() {
		same(t, "water with "+what, impl.ValidWater(bad, impl.Water{}), false)
	}
}

// checkFlows asserts what the functions tell of how a gutter flows.
func checkFlows(t *testing.T, g impl.Gutter) {
	t.Helper()
	name := fmt.Sprint(" of ", g)
	flows, code := impl.FlowsTo(g)
	same(t, "flows"+name, all(flows, code), all(flowsIn(g), int64(0)))
	for cell := range int64(g.Cells) {
		end, code := impl.EndOf(g, cell)
		same(t, fmt.Sprint("end of ", cell, name), all(end, code), all(endIn(g, cell), int64(0)))
		basin, code := impl.BasinOf(g, cell)
		same(t, "code", code, int64(0))
		same(t, fmt.Sprint("basin of ", cell, name), basin, basinIn(g, int(cell)))
	}
	undrained, code := impl.Undrained(g)
	same(t, "code", code, int64(0))
	same(t, "undrained"+name, undrained, undrainedIn(g))
}

func TestFlows(t *testing.T) {
	for cells := 1; cells <= 3; cells++ {
		for _, g := range everyGutter(cells) {
			checkFlows(t, g)
		}
	}
	for i, g := range everyGutter(4) {
		if i%5 == 0 {
			checkFlows(t, g)
		}
	}
	for _, g := range append(edgeGutters(), sampleGutters(74, 30)...) {
		checkFlows(t, g)
	}
}

// TestFlowsOfFew has cells at both ends, between others that are lower, as high or higher, and with pipes and leaves.
func TestFlowsOfFew(t *testing.T) {
	for _, c := range []struct {
		g                impl.Gutter
		flows            []int64
		undrained, basin []int64
		of               int64
	}{
		{gutter(1, "5", "."), []int64{-1}, []int64{0}, []int64{0}, 0},
		{gutter(1, "5", ".", 0, 0), []int64{-1}, nil, []int64{0}, 0},
		{gutter(1, "5", "l", 0, 1), []int64{-1}, nil, []int64{0}, 0},
		{gutter(1, "10", ".."), []int64{1, -1}, []int64{0, 1}, []int64{0, 1}, 1},
		{gutter(1, "01", ".."), []int64{-1, 0}, []int64{0, 1}, []int64{0, 1}, 0},
		{gutter(1, "01", ".."), []int64{-1, 0}, []int64{0, 1}, nil, 1},
		{gutter(1, "00", ".."), []int64{-1, -1}, []int64{0, 1}, []int64{1}, 1},
		{gutter(1, "010", "..."), []int64{-1, 0, -1}, []int64{0, 1, 2}, []int64{0, 1}, 0},
		{gutter(1, "231", "..."), []int64{-1, 2, -1}, []int64{0, 1, 2}, []int64{1, 2}, 2},
		{gutter(1, "132", "..."), []int64{-1, 0, -1}, []int64{0, 1, 2}, []int64{2}, 2},
		{gutter(1, "111", "..."), []int64{-1, -1, -1}, []int64{0, 1, 2}, []int64{1}, 1},
		{gutter(1, "112", "..."), []int64{-1, -1, 1}, []int64{0, 1, 2}, []int64{1, 2}, 1},
		{gutter(1, "110", "..."), []int64{-1, 2, -1}, []int64{0, 1, 2}, []int64{1, 2}, 2},
		{gutter(1, "212", "..."), []int64{1, -1, 1}, []int64{0, 1, 2}, []int64{0, 1, 2}, 1},
		{gutter(1, "909", "...", 1, 1), []int64{1, -1, 1}, nil, []int64{0, 1, 2}, 1},
		{gutter(1, "210", "...", 1, 0), []int64{1, -1, -1}, []int64{2}, []int64{0, 1}, 1},
		{gutter(1, "210", ".l."), []int64{1, -1, -1}, []int64{0, 1, 2}, []int64{0, 1}, 1},
		{gutter(1, "210", ".l.", 2, 1), []int64{1, -1, -1}, []int64{0, 1}, []int64{2}, 2},
		{gutter(1, "210", ".l.", 1, 1), []int64{1, -1, -1}, []int64{2}, []int64{0, 1}, 1},
		{gutter(1, "210", "..l", 2, 1), []int64{1, 2, -1}, nil, []int64{0, 1, 2}, 2},
		{gutter(1, "012", "l.l", 0, 1), []int64{-1, 0, -1}, []int64{2}, []int64{0, 1}, 0},
		{gutter(1, "10123", ".....", 1, 5, 4, 5), []int64{1, -1, 1, 2, -1}, nil, []int64{0, 1, 2, 3}, 1},
		{gutter(1, "98765432100000000", "................."), []int64{1, 2, 3, 4, 5, 6, 7, 8, 9, -1, -1, -1, -1, -1, -1, -1, -1}, []int64{0, 1, 2, 3, 4, 5, 6, 7, 8, 9, 10, 11, 12, 13, 14, 15, 16}, []int64{0, 1, 2, 3, 4, 5, 6, 7, 8, 9}, 9},
		{gutter(1, "00000000123456789", ".................", 7, 1), []int64{-1, -1, -1, -1, -1, -1, -1, -1, 7, 8, 9, 10, 11, 12, 13, 14, 15}, []int64{0, 1, 2, 3, 4, 5, 6}, []int64{7, 8, 9, 10, 11, 12, 13, 14, 15, 16}, 7},
	} {
		checkFlows(t, c.g)
		name := fmt.Sprint(" of ", c.g)
		flows, code := impl.FlowsTo(c.g)
		same(t, "flows"+name, all(flows, code), all(c.flows, int64(0)))
		undrained, code := impl.Undrained(c.g)
		same(t, "code", code, int64(0))
		same(t, "undrained"+name, undrained, c.undrained)
		basin, code := impl.BasinOf(c.g, c.of)
		same(t, "code", code, int64(0))
		same(t, fmt.Sprint("basin of ", c.of, name), basin, c.basin)
	}
}

func TestMinutes(t *testing.T) {
	n := numbers(75)
	for i, g := range sampleGutters(76, 60) {
		w, rain := someWater(&n, g), someShower(&n, g)
		name := fmt.Sprint(" of ", g, w, rain)
		want, wantTaken, wantOver, _ := minutesIn(g, w, rain, 1, false)
		after, taken, over, code := impl.MinuteOnce(g, w, rain)
		same(t, "a minute"+name, all(after, taken, over, code), all(want, wantTaken, wantOver, int64(0)))
		minutes := int64(n.below(20))
		if i%10 == 0 {
			minutes = 200
		}
		want, wantTaken, wantOver, _ = minutesIn(g, w, rain, minutes, false)
		after, taken, over, code = impl.MinutesAll(g, w, rain, minutes)
		same(t, fmt.Sprint(minutes, " minutes", name), all(after, taken, over, code), all(want, wantTaken, wantOver, int64(0)))
	}
}

func TestFirstOver(t *testing.T) {
	n := numbers(77)
	for _, g := range sampleGutters(78, 30) {
		rain := someShower(&n, g)
		first, code := impl.FirstOver(g, rain)
		want := firstOverIn(g, rain)
		finds(t, fmt.Sprint("first of ", g, rain), want, all(first, code))
	}
}

// TestFirstOverOfFew has gutters in which something runs over at once, in the last minute, and never; -1 stands for never.
func TestFirstOverOfFew(t *testing.T) {
	for _, c := range []struct {
		g    impl.Gutter
		rain []int64
		want int64
	}{
		{gutter(0, "0", "."), []int64{0}, -1},
		{gutter(0, "0", "."), []int64{1}, 0},
		{gutter(1000, "0", "."), []int64{1000}, 1},
		{gutter(999, "0", "."), []int64{1000}, 0},
		{gutter(199, "0", "."), []int64{1}, 199},
		{gutter(200, "0", "."), []int64{1}, -1},
		{gutter(995, "0", "."), []int64{5}, 199},
		{gutter(1000, "0", "."), []int64{5}, -1},
		{gutter(0, "0", ".", 0, 1000), []int64{1000}, -1},
		{gutter(0, "0", ".", 0, 999), []int64{1000}, 0},
		{gutter(199, "0", ".", 0, 4), []int64{5}, 199},
		{gutter(200, "0", ".", 0, 4), []int64{5}, -1},
		// In the first minute nothing has come to the cell 0 yet when its pipe takes.
		{gutter(1, "01", "..", 0, 1000), []int64{0, 2}, 0},
		{gutter(2, "01", "..", 0, 1000), []int64{0, 2}, -1},
		{gutter(198, "01", "..", 0, 1), []int64{1, 1}, 198},
		{gutter(199, "01", "..", 0, 1), []int64{1, 1}, 199},
		{gutter(200, "01", "..", 0, 1), []int64{1, 1}, -1},
		// What goes on does not run over where it has fallen.
		{gutter(0, "10", "..", 1, 1000), []int64{5, 0}, 0},
		{gutter(5, "10", "..", 1, 1000), []int64{5, 0}, -1},
		{gutter(4, "10", "l.", 1, 1000), []int64{5, 0}, 0},
		{gutter(1000, "98765432100000000", ".................", 9, 0), evenly(1000, 17), 0},
	} {
		first, code := impl.FirstOver(c.g, c.rain)
		finds(t, fmt.Sprint("first of ", c.g, c.rain), c.want, all(first, code))
	}
}

func TestDrainTime(t *testing.T) {
	n := numbers(79)
	for _, g := range sampleGutters(80, 30) {
		w := someWater(&n, g)
		time, code := impl.DrainTime(g, w)
		want := drainIn(g, w)
		finds(t, fmt.Sprint("drain time of ", g, w), want, all(time, code))
	}
}

// TestDrainTimeOfFew has water that drains in 0 minutes, in just 200, in one more, and never; -1 stands for the last two.
func TestDrainTimeOfFew(t *testing.T) {
	for _, c := range []struct {
		g    impl.Gutter
		w    impl.Water
		want int64
	}{
		{gutter(10, "0", "."), impl.Water{}, 0},
		{gutter(0, "0", "l", 0, 0), impl.Water{}, 0},
		{gutter(10, "0", "."), water(1), -1},
		{gutter(10, "0", ".", 0, 0), water(1), -1},
		{gutter(10, "0", ".", 0, 1), water(1), 1},
		{gutter(10, "0", "l", 0, 1), water(10), 10},
		{gutter(10, "0", ".", 0, 1000), water(10), 1},
		{gutter(1000, "0", ".", 0, 1000), water(1000), 1},
		{gutter(1000, "0", ".", 0, 1), water(200), 200},
		{gutter(1000, "0", ".", 0, 1), water(201), -1},
		{gutter(1000, "0", ".", 0, 5), water(1000), 200},
		{gutter(1000, "0", ".", 0, 4), water(800), 200},
		{gutter(1000, "0", ".", 0, 4), water(801), -1},
		{gutter(10, "01", "..", 0, 1), water(0, 1), 2},
		{gutter(1000, "01", "..", 0, 1), water(0, 199), 200},
		{gutter(1000, "01", "..", 0, 1), water(0, 200), -1},
		{gutter(10, "01", ".l", 0, 1), water(5, 0), 5},
		{gutter(10, "01", ".l", 0, 1), water(5, 1), -1},
		// Of 10 and 10 there are 9 and 10 in one cell, so that 9 run over, and 10 are left.
		{gutter(10, "01", "..", 0, 1), water(10, 10), 11},
		{gutter(10, "00", "..", 0, 1), water(1, 1), -1},
		{gutter(1, "98765432101234567", ".................", 9, 1), impl.Water{0: 1}, 10},
	} {
		time, code := impl.DrainTime(c.g, c.w)
		finds(t, fmt.Sprint("drain time of ", c.g, c.w), c.want, all(time, code))
	}
}

// nearest returns how far a cell is from the nearest pipe, or 9.
func nearest(pipes []impl.Pipe, cell int8) int8 {
	for far := range int8(9) {
		for _, p := range pipes {
			if p.At == cell-far || p.At == cell+far {
				return far
			}
		}
	}
	return 9
}

func TestSlopeTo(t *testing.T) {
	for _, g := range sampleGutters(81, 40) {
		slope, code := impl.SlopeTo(int64(g.Cells), int64(g.Deep), g.Pipes)
		if len(g.Pipes) == 0 {
			fails(t, fmt.Sprint("slope to ", g), impl.ErrNotFound, all(slope, code))
			continue
		}
		want := impl.Gutter{Cells: g.Cells, Deep: g.Deep, Pipes: g.Pipes}
		for cell := range g.Cells {
			want.Heights[cell] = nearest(g.Pipes, cell)
		}
		same(t, fmt.Sprint("slope to ", g), all(slope, code), all(want, int64(0)))
	}
	for _, want := range []impl.Gutter{
		gutter(0, "0", ".", 0, 0),
		gutter(1000, "0", ".", 0, 1000),
		gutter(7, "01234567899999999", ".................", 0, 1),
		gutter(7, "99999999876543210", ".................", 16, 1),
		gutter(7, "98765432101234567", ".................", 9, 1),
		gutter(7, "0122100", ".......", 0, 1, 5, 1, 6, 1),
		gutter(7, "01210123321011012", ".................", 0, 1, 4, 2, 11, 3, 14, 4),
	} {
		slope, code := impl.SlopeTo(int64(want.Cells), int64(want.Deep), want.Pipes)
		same(t, "slope", all(slope, code), all(want, int64(0)))
	}
}

// TestCodesOfSlopes has numbers out of their ranges, some of which would be in them if they were cut to fewer bits, and pipes of no valid gutter.
func TestCodesOfSlopes(t *testing.T) {
	one := []impl.Pipe{{Takes: 1}}
	for _, pipes := range [][]impl.Pipe{nil, one} {
		for _, number := range append(farNumbers(), -65536, -65531, 1001, 1<<16+5, 1<<32+5, 1<<32, 1<<8+5, -251) {
			if number < 1 || number > 17 {
				g, code := impl.SlopeTo(number, 5, pipes)
				fails(t, fmt.Sprint("slope of ", number, " cells"), impl.ErrRange, all(g, code))
			}
			if number < 0 || number > 1000 {
				g, code := impl.SlopeTo(5, number, pipes)
				fails(t, fmt.Sprint("slope ", number, " deep"), impl.ErrRange, all(g, code))
				g, code = impl.SlopeTo(number, number, pipes)
				fails(t, fmt.Sprint("slope of ", number, " and ", number), impl.ErrRange, all(g, code))
			}
		}
		g, code := impl.SlopeTo(0, 5, pipes)
		fails(t, "slope of no cells", impl.ErrRange, all(g, code))
	}
	for what, bad := range badGutters() {
		if bad.Cells == 5 && 0 <= bad.Deep && bad.Deep <= 1000 && bad.Heights == exampleGutter().Heights && bad.Leaves <= 1 {
			g, code := impl.SlopeTo(5, 10, bad.Pipes)
			fails(t, "slope with "+what, impl.ErrRange, all(g, code))
		}
	}
	for _, deep := range []int64{0, 1, 999, 1000} {
		g, code := impl.SlopeTo(17, deep, nil)
		fails(t, "slope without pipes", impl.ErrNotFound, all(g, code))
		g, code = impl.SlopeTo(1, deep, one)
		same(t, "slope of one cell", all(g, code), all(gutter(int16(deep), "0", ".", 0, 1), int64(0)))
	}
}

func TestCleanLeaf(t *testing.T) {
	for _, g := range append(edgeGutters(), sampleGutters(82, 30)...) {
		for cell := range int(g.Cells) {
			cleaned, code := impl.CleanLeaf(g, int64(cell))
			if !leavesIn(g, cell) {
				fails(t, fmt.Sprint(g, " without leaves in ", cell), impl.ErrState, all(cleaned, code))
				continue
			}
			want := g
			want.Leaves -= 1 << cell
			same(t, fmt.Sprint(g, " without leaves in ", cell), all(impl.SameGutter(cleaned, want), code), all(true, int64(0)))
		}
	}
}

func TestBestClean(t *testing.T) {
	n := numbers(83)
	found := map[bool]int{}
	for _, g := range sampleGutters(84, 20) {
		rain, minutes := someShower(&n, g), int64(n.below(30))
		best, least, code := impl.BestClean(g, rain, minutes)
		want, over := bestCleanIn(g, rain, minutes)
		found[want > 0]++
		if want < 0 {
			fails(t, fmt.Sprint("best clean of ", g), impl.ErrNotFound, all(best, least, code))
			continue
		}
		same(t, fmt.Sprint("best clean of ", g, rain, minutes), all(best, least, code), all(want, over, int64(0)))
	}
	same(t, "some are not the first cell", found[true] > 50, true)
}

// TestBestCleanOfFew has leaves without which as much runs over as without others, more than with them, and no minutes.
func TestBestCleanOfFew(t *testing.T) {
	for _, c := range []struct {
		g          impl.Gutter
		rain       []int64
		minutes    int64
		best, over int64
	}{
		{gutter(1, "0", "l"), []int64{1}, 0, 0, 0},
		{gutter(1, "0", "l"), []int64{1}, 1, 0, 0},
		{gutter(1, "0", "l"), []int64{1}, 3, 0, 2},
		{gutter(0, "0", "l"), []int64{1000}, 200, 0, 200000},
		{gutter(1, "000", ".ll"), []int64{5, 5, 5}, 0, 1, 0},
		{gutter(1, "000", ".ll"), []int64{1, 1, 1}, 2, 1, 3},
		{gutter(5, "000", "..l"), []int64{0, 0, 0}, 200, 2, 0},
		{gutter(3, "012", ".ll", 0, 9), []int64{0, 1, 1}, 10, 1, 7},
		{gutter(9, "012", ".ll", 0, 9), []int64{0, 1, 1}, 10, 1, 1},
		{gutter(9, "012", ".ll", 0, 9), []int64{0, 1, 3}, 10, 1, 21},
		{gutter(9, "102", "l.l", 1, 9), []int64{1, 0, 3}, 10, 2, 1},
		{gutter(9, "201", "l.l", 1, 9), []int64{2, 0, 2}, 10, 0, 11},
		{gutter(9, "101", "l.l"), []int64{3, 0, 2}, 5, 0, 7},
		// The leaves in the cell 0 keep water from the cell 1, so that more runs over without them.
		{gutter(9, "100", "l.."), []int64{1, 2, 0}, 5, 0, 6},
		{gutter(9, "100", "l.l"), []int64{1, 2, 0}, 5, 2, 1},
	} {
		want, over := bestCleanIn(c.g, c.rain, c.minutes)
		same(t, "the reference", all(want, over), all(c.best, c.over))
		best, least, code := impl.BestClean(c.g, c.rain, c.minutes)
		same(t, fmt.Sprint("best clean of ", c.g, c.rain, c.minutes), all(best, least, code), all(c.best, c.over, int64(0)))
	}
}

func TestLeastTakes(t *testing.T) {
	n := numbers(85)
	for _, g := range sampleGutters(86, 8) {
		rain := someShower(&n, g)
		for pipe := range g.Pipes {
			takes, code := impl.LeastTakes(g, rain, int64(pipe))
			want := leastTakesIn(g, rain, pipe)
			finds(t, fmt.Sprint("least takes of ", g, rain, pipe), want, all(takes, code))
		}
	}
}

// TestLeastTakesOfFew has least numbers of 0, of 1000, and none, which -1 stands for.
func TestLeastTakesOfFew(t *testing.T) {
	for _, c := range []struct {
		g    impl.Gutter
		rain []int64
		pipe int64
		want int64
	}{
		{gutter(0, "0", ".", 0, 5), []int64{0}, 0, 0},
		{gutter(200, "0", ".", 0, 5), []int64{1}, 0, 0},
		{gutter(199, "0", ".", 0, 5), []int64{1}, 0, 1},
		{gutter(0, "0", ".", 0, 5), []int64{1000}, 0, 1000},
		{gutter(1, "0", ".", 0, 5), []int64{1000}, 0, 1000},
		{gutter(199, "0", ".", 0, 5), []int64{1000}, 0, 1000},
		{gutter(200, "0", ".", 0, 5), []int64{1000}, 0, 999},
		{gutter(1000, "0", "l", 0, 5), []int64{1000}, 0, 995},
		{gutter(0, "01", "..", 0, 5), []int64{0, 1}, 0, -1},
		{gutter(1, "01", "..", 0, 5), []int64{0, 1}, 0, 1},
		{gutter(1, "01", "..", 0, 5), []int64{1, 1}, 0, 2},
		{gutter(1000, "01", "..", 0, 5), []int64{1000, 1}, 0, 996},
		{gutter(1000, "01", "..", 0, 5), []int64{1000, 1000}, 0, -1},
		{gutter(1000, "00", "..", 0, 5), []int64{0, 1000}, 0, -1},
		{gutter(1000, "00", "..", 0, 5, 1, 995), []int64{3, 1000}, 0, 0},
		{gutter(1000, "00", "..", 0, 5, 1, 994), []int64{3, 1000}, 0, -1},
		{gutter(1000, "00", "..", 0, 5, 1, 994), []int64{3, 1000}, 1, 995},
		{gutter(10, "0000", "....", 0, 1, 1, 1, 2, 1, 3, 0), []int64{1, 1, 1, 7}, 3, 7},
		{gutter(10, "0000", "....", 0, 0, 1, 1, 2, 1, 3, 7), []int64{1, 1, 1, 7}, 3, -1},
	} {
		takes, code := impl.LeastTakes(c.g, c.rain, c.pipe)
		finds(t, fmt.Sprint("least takes of ", c.g, c.rain, c.pipe), c.want, all(takes, code))
	}
}

func TestMirrorGutter(t *testing.T) {
	for _, g := range append(edgeGutters(), sampleGutters(87, 30)...) {
		mirror, code := impl.MirrorGutter(g)
		same(t, "code", code, int64(0))
		last := int(g.Cells) - 1
		for cell := range 17 {
			if cell > last {
				same(t, "no cell", mirror.Heights[cell], int8(0))
				continue
			}
			same(t, "height", mirror.Heights[cell], g.Heights[last-cell])
			same(t, "leaves", leavesIn(mirror, cell), leavesIn(g, last-cell))
			takes, piped := takesIn(mirror, cell)
			want, isPiped := takesIn(g, last-cell)
			same(t, "pipe", all(takes, piped), all(want, isPiped))
		}
		same(t, fmt.Sprint("valid: ", mirror), impl.ValidGutter(mirror), true)
		same(t, "sizes", all(mirror.Cells, mirror.Deep, len(mirror.Pipes)), all(g.Cells, g.Deep, len(g.Pipes)))
		again, code := impl.MirrorGutter(mirror)
		same(t, "mirrored twice", all(impl.SameGutter(again, g), code), all(true, int64(0)))
	}
	for _, c := range [][2]impl.Gutter{
		{gutter(3, "12", "l."), gutter(3, "21", ".l")},
		{gutter(3, "12", ".l", 0, 4), gutter(3, "21", "l.", 1, 4)},
		{gutter(3, "123", "l..", 0, 4, 1, 5), gutter(3, "321", "..l", 1, 5, 2, 4)},
		{gutter(3, "5", "l", 0, 4), gutter(3, "5", "l", 0, 4)},
		{gutter(0, "10000000000000002", "ll...............", 0, 1, 1, 2, 2, 3, 15, 4), gutter(0, "20000000000000001", "...............ll", 1, 4, 14, 3, 15, 2, 16, 1)},
	} {
		mirror, code := impl.MirrorGutter(c[0])
		same(t, "mirrored", all(mirror, code), all(c[1], int64(0)))
	}
	// Between two cells that are as high as each other water goes to the left, mirrored or not.
	mirror, _ := impl.MirrorGutter(gutter(1, "010", "..."))
	flows, _ := impl.FlowsTo(mirror)
	same(t, "flows", flows, []int64{-1, 0, -1})
}

func TestGutterText(t *testing.T) {
	for text, g := range map[string]impl.Gutter{
		"5 10\n21012\n.....\n2 3\n":            exampleGutter(),
		"1 0\n0\n.\n":                          gutter(0, "0", "."),
		"1 1000\n9\nl\n0 1000\n":               gutter(1000, "9", "l", 0, 1000),
		"2 7\n90\n.l\n":                        gutter(7, "90", ".l"),
		"2 7\n90\nl.\n0 0\n1 10\n":             gutter(7, "90", "l.", 0, 0, 1, 10),
		"10 10\n0123456789\nll......ll\n9 5\n": gutter(10, "0123456789", "ll......ll", 9, 5),
		"17 999\n00000000000000009\n................l\n0 1\n9 2\n10 3\n16 100\n": gutter(999, "00000000000000009", "................l", 0, 1, 9, 2, 10, 3, 16, 100),
	} {
		same(t, "text", impl.GutterText(g), text)
		read, code := impl.ReadGutter(text)
		same(t, fmt.Sprintf("read %q", text), all(read, code), all(g, int64(0)))
	}
	for _, g := range append(edgeGutters(), sampleGutters(88, 60)...) {
		text := impl.GutterText(g)
		read, code := impl.ReadGutter(text)
		same(t, fmt.Sprintf("read %q", text), all(impl.SameGutter(read, g), code), all(true, int64(0)))
		same(t, "text again", impl.GutterText(read), text)
	}
	for what, bad := range badGutters() {
		same(t, "text with "+what, impl.GutterText(bad), "")
	}
}

// textOfGutter describes texts of gutters, but for how many heights there are, and where pipes are.
var textOfGutter = regexp.MustCompile(`\A([1-9]|1[0-7]) (0|[1-9][0-9]{0,2}|1000)\n([0-9]{1,17})\n([l.]{1,17})\n(?:([0-9]|1[0-6]) (0|[1-9][0-9]{0,2}|1000)\n){0,4}\z`)

// checkGutterText asserts that a text is read, and is that of what has been read, or is refused if it is not even nearly one.
func checkGutterText(t *testing.T, text string) {
	t.Helper()
	g, code := impl.ReadGutter(text)
	if code == impl.OK {
		same(t, fmt.Sprintf("read %q", text), all(textOfGutter.MatchString(text), impl.ValidGutter(g), impl.GutterText(g)), all(true, true, text))
		return
	}
	fails(t, fmt.Sprintf("read %q", text), impl.ErrSyntax, all(g, code))
}

// TestChangedTexts has all texts that differ from one of a gutter in one byte, by one that is missing, other, or more.
func TestChangedTexts(t *testing.T) {
	for _, text := range []string{"5 10\n21012\nl....\n2 3\n4 10\n", "1 0\n0\n.\n", "10 1000\n0123456789\n..........\n0 1\n"} {
		readings := 0
		for i := range len(text) + 1 {
			var changed []string
			for b := range 256 {
				changed = append(changed, text[:i]+string([]byte{byte(b)})+text[i:])
				if i < len(text) {
					changed = append(changed, text[:i]+string([]byte{byte(b)})+text[i+1:])
				}
			}
			if i < len(text) {
				changed = append(changed, text[:i]+text[i+1:])
			}
			for _, next := range changed {
				checkGutterText(t, next)
				if _, code := impl.ReadGutter(next); code == impl.OK {
					readings++
				}
			}
		}
		same(t, fmt.Sprintf("some texts nearly %q are read", text), readings > len(text), true)
	}
}

// TestNearlyGutters has texts that are nearly those of gutters.
func TestNearlyGutters(t *testing.T) {
	for _, text := range []string{
		"", "\n", "\n\n", "\n\n\n", "\n\n\n\n", "x", " ", "5 10", "5 10\n", "5 10\n21012\n", "5 10\n21012\n.....", "5 10\n21012\n.....\n2 3", "5 10\n21012\n.....\n2 3\n\n", "5 10\n21012\n.....\n\n", "\n5 10\n21012\n.....\n", "5 10\n\n21012\n.....\n", "5 10\n21012\n\n.....\n",
		"5  10\n21012\n.....\n", " 5 10\n21012\n.....\n", "5 10 \n21012\n.....\n", "5\t10\n21012\n.....\n", "510\n21012\n.....\n", "5 10\r\n21012\n.....\n", "5 10\n21012 \n.....\n", "5 10\n21012\n ....\n",
		"05 10\n21012\n.....\n", "5 010\n21012\n.....\n", "+5 10\n21012\n.....\n", "5 +10\n21012\n.....\n", "5 -10\n21012\n.....\n", "-5 10\n21012\n.....\n", "5 -0\n21012\n.....\n", "5 1_0\n21012\n.....\n", "5 1e1\n21012\n.....\n", "5 0xa\n21012\n.....\n", "5 \n21012\n.....\n", " 10\n21012\n.....\n", "5\n21012\n.....\n", "5 10 1\n21012\n.....\n",
		"0 10\n\n\n", "4 10\n21012\n.....\n", "6 10\n21012\n.....\n", "18 10\n000000000000000000\n..................\n", "5 1001\n21012\n.....\n", "5 32768\n21012\n.....\n", "5 65546\n21012\n.....\n", "261 10\n21012\n.....\n", "5 99999999999999999999\n21012\n.....\n",
		"5 10\n2101\n.....\n", "5 10\n210122\n.....\n", "5 10\n2101x\n.....\n", "5 10\n2101:\n.....\n", "5 10\n2101/\n.....\n", "5 10\n-2101\n.....\n", "5 10\n2 1012\n.....\n", "5 10\n21012\n....\n", "5 10\n21012\n......\n", "5 10\n21012\n.L...\n", "5 10\n21012\n.x...\n", "5 10\n21012\n.1...\n", "5 10\n.....\n21012\n", "5 10\n21012\n.....l\n",
		"5 10\n21012\n.....\n2\n", "5 10\n21012\n.....\n2 \n", "5 10\n21012\n.....\n 3\n", "5 10\n21012\n.....\n2  3\n", "5 10\n21012\n.....\n02 3\n", "5 10\n21012\n.....\n2 03\n", "5 10\n21012\n.....\n+2 3\n", "5 10\n21012\n.....\n2 +3\n", "5 10\n21012\n.....\n-2 3\n", "5 10\n21012\n.....\n-0 3\n", "5 10\n21012\n.....\n2 -3\n", "5 10\n21012\n.....\n5 3\n", "5 10\n21012\n.....\n2 1001\n", "5 10\n21012\n.....\n258 3\n", "5 10\n21012\n.....\n2 65539\n", "5 10\n21012\n.....\n2 3 4\n", "5 10\n21012\n.....\n2,3\n",
		"5 10\n21012\n.....\n2 3\n2 3\n", "5 10\n21012\n.....\n2 3\n2 4\n", "5 10\n21012\n.....\n2 3\n1 3\n", "5 10\n21012\n.....\n1 1\n3 1\n2 1\n", "5 10\n21012\n.....\n0 1\n\n2 1\n", "5 10\n21012\n.....\n0 1\n1 1\n2 1\n3 1\n4 1\n", "5 10\n21012\n.....\n0 1\n1 1\n2 1\n3 1\n\n", "5 10\n21012\n.....\n0 1\n1 1\n2 1\n3 1\nx", "5 10\n21012\n.....\n0 1\n1 1\n2 1\n3 1",
	} {
		g, code := impl.ReadGutter(text)
		fails(t, fmt.Sprintf("read %q", text), impl.ErrSyntax, all(g, code))
	}
	four := "5 10\n21012\n.....\n0 1\n1 1\n2 1\n3 1\n"
	g, code := impl.ReadGutter(four)
	same(t, "four pipes", all(g, code), all(gutter(10, "21012", ".....", 0, 1, 1, 1, 2, 1, 3, 1), int64(0)))
	for _, text := range []string{strings.Repeat("\n", 1000000), strings.Repeat("5", 1000000), strings.Repeat(" ", 1000000), "5 10\n" + strings.Repeat("2", 900000) + "\n.....\n", "5 10\n21012\n" + strings.Repeat("l", 900000) + "\n", four + strings.Repeat("4 1\n", 200000), "5 " + strings.Repeat("0", 900000) + "10\n21012\n.....\n"} {
		g, code := impl.ReadGutter(text)
		fails(t, fmt.Sprintf("read %d bytes", len(text)), impl.ErrSyntax, all(g, code))
	}
}
