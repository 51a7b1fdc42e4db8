package tests

import (
	"fmt"
	"maps"
	"math"
	"slices"
	"strings"
	"testing"

	"loop.example/g01376/impl"
)

// everyCount has numbers of cells, pipes and minutes, in their ranges and out of them.
func everyCount() []int64 {
	return append(farNumbers(), 0, 1, 2, 3, 4, 5, 16, 17, 199, 200, 201, 1000, 1001)
}

// P1: a gutter that is not valid is refused ahead of all other errors, whatever the other arguments are.
func TestPromise1InvalidGuttersFirst(t *testing.T) {
	waters := append(badWaters(), impl.Water{}, water(1, 2, 3, 4, 5))
	rains := append(badShowers(), evenly(1, 5))
	for what, bad := range badGutters() {
		for i, number := range everyCount() {
			other := everyCount()[(i*7+3)%len(everyCount())]
			for name, got := range callsOfGutter(bad, number) {
				fails(t, name+" with "+what, impl.ErrInvalid, got)
			}
			for name, got := range callsOfMinutes(bad, waters[i%len(waters)], rains[i%len(rains)], number, other) {
				fails(t, name+" with "+what, impl.ErrInvalid, got)
			}
		}
	}
}

// P1: water that is not valid is refused by all functions that take some, ahead of all other errors.
func TestPromise1InvalidWaterFirst(t *testing.T) {
	for _, bad := range badWaters() {
		for _, rain := range append(badShowers(), evenly(1, 5)) {
			for _, minutes := range everyCount() {
				got := callsOfMinutes(exampleGutter(), bad, rain, minutes, minutes)
				for _, name := range []string{"MinuteOnce", "MinutesAll", "DrainTime"} {
					fails(t, fmt.Sprint(name, " with ", bad), impl.ErrInvalid, got[name])
				}
			}
		}
	}
}

// P1: several errors at once: the first one, by the document's order, is returned, with zero values beside it.
func TestPromise1OrderOfErrorsInGutters(t *testing.T) {
	leafy := gutter(10, "21012", "l...l", 1, 3, 2, 7)
	for _, g := range []impl.Gutter{exampleGutter(), leafy, gutter(0, "00000", "....."), gutter(1000, "01010", "lllll", 0, 0, 1, 1, 2, 2, 3, 3)} {
		for i, rain := range append(badShowers(), evenly(0, 5), evenly(1, 5), evenly(1000, 5)) {
			for _, w := range []impl.Water{{}, water(0, 0, 1), water(-1), water(0, 0, 0, 0, 0, 1)} {
				for j, number := range everyCount() {
					other := everyCount()[(i+j)%len(everyCount())]
					c := gutterCase{g: g, w: w, rain: rain, cell: number, minutes: number, pipe: other}
					if i%2 == 0 {
						c.minutes, c.pipe = other, number
					}
					checkCodes(t, c)
				}
			}
		}
	}
}

// checkCodes asserts that each function returns the code that it has to, and zero values beside one that is not OK.
func checkCodes(t *testing.T, c gutterCase) {
	t.Helper()
	for name, got := range c.calls() {
		want := c.code(name)
		if got.code() != want || want != impl.OK && !got.isNothing() {
			t.Errorf("%s of %v: got %v, want the code %d", name, c, got, want)
		}
	}
}

// P1: every function returns, for arguments of all kinds, with zero values beside an error.
func TestPromise1AllArgumentsOfGutters(t *testing.T) {
	n := numbers(91)
	bad := slices.Collect(maps.Values(badGutters()))
	for i := range 6000 {
		c := gutterCase{g: someGutter(&n, n.below(17)+1), cell: everyCount()[n.below(len(everyCount()))], minutes: everyCount()[n.below(len(everyCount()))], pipe: int64(n.below(7) - 1)}
		c.w, c.rain = someWater(&n, c.g), someShower(&n, c.g)
		switch i % 4 {
		case 0:
			c.w[n.below(17)] = []int32{-1, 0, 1, 1001, math.MaxInt32, math.MinInt32}[n.below(6)]
		case 1:
			c.rain[n.below(len(c.rain))] = everyCount()[n.below(len(everyCount()))]
		case 2:
			c.g = bad[n.below(len(bad))]
		}
		for name, got := range c.calls() {
			if got.code() != impl.OK {
				fails(t, name, got.code(), got)
			}
		}
	}
}

// P1: every function returns for lists that are as long as they can be.
func TestPromise1LongListsOfGutters(t *testing.T) {
	long := exampleGutter()
	long.Pipes = make([]impl.Pipe, 900000)
	for name, got := range callsOfGutter(long, 0) {
		fails(t, name, impl.ErrInvalid, got)
	}
	slope, code := impl.SlopeTo(5, 10, long.Pipes)
	fails(t, "SlopeTo", impl.ErrRange, all(slope, code))
	same(t, "a long gutter as itself", impl.SameGutter(long, long), true)
	same(t, "valid", impl.ValidGutter(long), false)
	same(t, "text", impl.GutterText(long), "")
	rain := make([]int64, 900000)
	for name, got := range callsOfMinutes(exampleGutter(), impl.Water{}, rain, 1, 0) {
		if name != "DrainTime" {
			fails(t, name, impl.ErrRange, got)
		}
	}
}

// someCase makes arguments that are all as told.
func someCase(n *numbers, g impl.Gutter) gutterCase {
	return gutterCase{g: g, w: someWater(n, g), rain: someShower(n, g), cell: int64(n.below(int(g.Cells))), minutes: int64(n.below(30)), pipe: int64(n.below(len(g.Pipes) + 1))}
}

// P1: equal arguments have equal results, those of a second call after a change of the first results, too.
func TestPromise1EqualResultsOfGutters(t *testing.T) {
	n := numbers(92)
	for _, g := range sampleGutters(93, 20) {
		c := someCase(&n, g)
		returnTheSame(t, c, c.calls)
		other := c
		other.g.Pipes, other.rain = slices.Clone(c.g.Pipes), slices.Clone(c.rain)
		same(t, fmt.Sprint("calls of ", c), c.calls(), other.calls())
		same(t, "as itself", impl.SameGutter(g, other.g), true)
		same(t, "text", impl.GutterText(g), impl.GutterText(other.g))
		same(t, "valid", all(impl.ValidGutter(g), impl.ValidWater(g, c.w)), all(true, true))
	}
}

// P1: no function changes pipes or rain, nor the room behind them, and no result shares memory with them.
func TestPromise1ListsOfGuttersAreKept(t *testing.T) {
	n := numbers(94)
	for _, g := range sampleGutters(95, 20) {
		c := someCase(&n, g)
		pipes, rain := slices.Clone(g.Pipes[:8]), slices.Clone(c.rain[:20])
		for _, got := range c.calls() {
			spoil(got)
		}
		for cell := range int64(g.Cells) {
			if cleaned, code := impl.CleanLeaf(g, cell); code == impl.OK {
				spoil(all(cleaned))
			}
		}
		slope, _ := impl.SlopeTo(int64(g.Cells), 10, g.Pipes)
		spoil(all(slope))
		impl.SameGutter(g, g)
		impl.GutterText(g)
		same(t, "pipes", g.Pipes[:8], pipes)
		same(t, "rain", c.rain[:20], rain)
	}
}

// P1: nil lists are as empty ones.
func TestPromise1EmptyListsOfGutters(t *testing.T) {
	n := numbers(96)
	for _, g := range sampleGutters(97, 5) {
		c := someCase(&n, g)
		c.g.Pipes = nil
		other := c
		other.g.Pipes = []impl.Pipe{}
		first, second := c.calls(), other.calls()
		for name, got := range first {
			for i, x := range got {
				if a, is := x.(impl.Gutter); is {
					same(t, name, impl.SameGutter(a, second[name][i].(impl.Gutter)), true)
					continue
				}
				same(t, name, x, second[name][i])
			}
		}
		for name, got := range callsOfMinutes(g, c.w, nil, 1, 0) {
			if name != "DrainTime" {
				fails(t, name, impl.ErrRange, got)
			}
		}
	}
}

// sumIn returns how much water there is.
func sumIn(w impl.Water) int64 {
	var sum int64
	for _, amount := range w {
		sum += int64(amount)
	}
	return sum
}

// checkWater asserts that after some minutes all that was there, and all that fell, is in the gutter, in the pipes and on the ground.
func checkWater(t *testing.T, g impl.Gutter, w impl.Water, rain []int64, minutes int64) (impl.Water, int64, int64) {
	t.Helper()
	name := fmt.Sprint(minutes, " minutes of ", g, w, rain)
	after, taken, over, code := impl.MinutesAll(g, w, rain, minutes)
	same(t, "code of "+name, code, int64(0))
	fell := sumIn(w)
	for _, amount := range rain {
		fell += amount * minutes
	}
	same(t, name, sumIn(after)+taken+over, fell)
	if taken < 0 || over < 0 || !impl.ValidWater(g, after) {
		t.Errorf("%s: got %v, %d and %d", name, after, taken, over)
	}
	var most int64
	for _, p := range g.Pipes {
		most += int64(p.Takes) * minutes
	}
	if taken > most {
		t.Errorf("%s: got %d of the pipes, which take %d at most", name, taken, most)
	}
	return after, taken, over
}

// P12: water is in gutters, pipes and on the ground, all that fell; and many minutes are as one after the other.
func TestPromise12AllWater(t *testing.T) {
	n := numbers(98)
	for i, g := range sampleGutters(99, 60) {
		w, rain := someWater(&n, g), someShower(&n, g)
		minutes := int64(n.below(12))
		if i%20 == 0 {
			minutes = 200
		}
		last, allTaken, allOver := checkWater(t, g, w, rain, minutes)
		var sumTaken, sumOver int64
		for range minutes {
			after, taken, over, code := impl.MinuteOnce(g, w, rain)
			one, takenThen, overThen := checkWater(t, g, w, rain, 1)
			same(t, "a minute", all(after, taken, over, code), all(one, takenThen, overThen, int64(0)))
			w, sumTaken, sumOver = after, sumTaken+taken, sumOver+over
		}
		same(t, fmt.Sprint("minutes of ", g), all(last, allTaken, allOver), all(w, sumTaken, sumOver))
	}
}

// P12: the functions about rain tell what goes by in minutes.
func TestPromise12FirstOverAndDrainTime(t *testing.T) {
	n := numbers(100)
	for _, g := range sampleGutters(101, 30) {
		w, rain := someWater(&n, g), someShower(&n, g)
		if first, code := impl.FirstOver(g, rain); code == impl.OK {
			_, _, before := checkWater(t, g, impl.Water{}, rain, first)
			_, _, over := checkWater(t, g, impl.Water{}, rain, first+1)
			same(t, fmt.Sprint("first over of ", g, rain), all(before, over > 0), all(int64(0), true))
		} else {
			_, _, over := checkWater(t, g, impl.Water{}, rain, 200)
			same(t, "never over", all(code, over), all(int64(impl.ErrNotFound), int64(0)))
		}
		dry := make([]int64, g.Cells)
		if time, code := impl.DrainTime(g, w); code == impl.OK {
			last, _, _ := checkWater(t, g, w, dry, time)
			before, _, _ := checkWater(t, g, w, dry, max(time-1, 0))
			same(t, fmt.Sprint("drain time of ", g, w), all(sumIn(last), time == 0 || sumIn(before) > 0), all(int64(0), true))
		} else {
			last, _, _ := checkWater(t, g, w, dry, 200)
			same(t, "never drained", all(code, sumIn(last) > 0), all(int64(impl.ErrNotFound), true))
		}
	}
}

// P12: the edge cases: what falls, is taken, goes on, comes, and runs over in the same minute, in this order.
func TestPromise12EdgeCases(t *testing.T) {
	for what, c := range map[string]struct {
		g           impl.Gutter
		w           impl.Water
		rain        []int64
		minutes     int64
		after       impl.Water
		taken, over int64
	}{
		"no minutes":                                {gutter(5, "01", "..", 0, 1), water(5, 4), evenly(9, 2), 0, water(5, 4), 0, 0},
		"no rain and no water":                      {gutter(5, "01", "..", 0, 1), impl.Water{}, evenly(0, 2), 200, impl.Water{}, 0, 0},
		"one cell fills up":                         {gutter(5, "0", "."), water(4), evenly(1, 1), 1, water(5), 0, 0},
		"one cell runs over":                        {gutter(5, "0", "."), water(5), evenly(1, 1), 1, water(5), 0, 1},
		"no room":                                   {gutter(0, "0", "."), impl.Water{}, evenly(1000, 1), 200, impl.Water{}, 0, 200000},
		"no room, and a pipe":                       {gutter(0, "0", ".", 0, 999), impl.Water{}, evenly(1000, 1), 200, impl.Water{}, 199800, 200},
		"a pipe takes what falls":                   {gutter(5, "0", ".", 0, 7), water(5), evenly(2, 1), 1, water(0), 7, 0},
		"a pipe takes more than there is":           {gutter(5, "0", ".", 0, 8), water(5), evenly(2, 1), 1, water(0), 7, 0},
		"a pipe takes less than there is":           {gutter(5, "0", ".", 0, 6), water(5), evenly(2, 1), 1, water(1), 6, 0},
		"a pipe takes nothing":                      {gutter(5, "0", ".", 0, 0), water(5), evenly(2, 1), 1, water(5), 0, 2},
		"a pipe takes all that there can be":        {gutter(1000, "0", ".", 0, 1000), water(1000), evenly(1000, 1), 1, water(1000), 1000, 0},
		"a pipe under leaves":                       {gutter(5, "0", "l", 0, 3), water(5), evenly(0, 1), 1, water(2), 3, 0},
		"a pipe takes before water comes":           {gutter(9, "01", "..", 0, 9), water(0, 4), evenly(0, 2), 1, water(4), 0, 0},
		"a pipe at a cell that would flow":          {gutter(9, "01", "..", 1, 3), water(0, 8), evenly(0, 2), 1, water(0, 5), 3, 0},
		"a pipe keeps others from running over":     {gutter(5, "00", "..", 1, 3), water(5, 5), evenly(3, 2), 1, water(5, 5), 3, 3},
		"leaves in a cell that would flow":          {gutter(9, "01", ".l"), water(0, 8), evenly(2, 2), 1, water(2, 9), 0, 1},
		"over by what comes alone":                  {gutter(5, "01", ".."), water(5, 3), evenly(0, 2), 1, water(5, 0), 0, 3},
		"over by what comes from both":              {gutter(5, "101", "..."), water(3, 0, 3), evenly(0, 3), 1, water(0, 5), 0, 1},
		"room for what comes from both":             {gutter(5, "101", "..."), water(3, 0, 2), evenly(0, 3), 1, water(0, 5), 0, 0},
		"goes on before it runs over":               {gutter(5, "10", ".."), water(5, 0), []int64{0, 0}, 1, water(0, 5), 0, 0},
		"rain goes on before it runs over":          {gutter(5, "10", ".."), water(2, 0), []int64{3, 0}, 1, water(0, 5), 0, 0},
		"rain that goes on runs over there":         {gutter(5, "10", ".."), water(5, 0), []int64{1000, 0}, 1, water(0, 5), 0, 1000},
		"gives and gets":                            {gutter(5, "012", "..."), water(0, 2, 3), evenly(0, 3), 1, water(2, 3, 0), 0, 0},
		"gives all, and gets more than it holds":    {gutter(5, "012", "..."), water(0, 5, 5), []int64{0, 0, 2}, 1, water(5, 5, 0), 0, 2},
		"no further than one cell":                  {gutter(9, "43210", "....."), water(4), evenly(0, 5), 2, water(0, 0, 4), 0, 0},
		"a hill gives to the lower side":            {gutter(9, "132", "..."), water(0, 6), evenly(0, 3), 1, water(6), 0, 0},
		"a hill gives to the left of two":           {gutter(9, "131", "..."), water(0, 6), evenly(0, 3), 1, water(6), 0, 0},
		"a hill gives to the lower right side":      {gutter(9, "231", "..."), water(0, 6), evenly(0, 3), 1, water(0, 0, 6), 0, 0},
		"level cells keep all":                      {gutter(9, "111", "..."), water(1, 9, 1), evenly(1, 3), 1, water(2, 9, 2), 0, 1},
		"four pipes":                                {gutter(9, "00000", ".....", 0, 1, 1, 2, 3, 3, 4, 1000), evenWater(9, 5), evenly(1, 5), 1, water(9, 8, 9, 7), 16, 1},
		"as much as there can be, for all minutes":  {gutter(1000, strings.Repeat("0", 17), strings.Repeat("l", 17)), evenWater(1000, 17), evenly(1000, 17), 200, evenWater(1000, 17), 0, 17 * 200000},
		"a slope to the last cell, for all minutes": {gutter(1000, "99999999876543210", ".................", 16, 1000), impl.Water{}, evenly(0, 17), 200, impl.Water{}, 0, 0},
	} {
		after, taken, over := checkWater(t, c.g, c.w, c.rain, c.minutes)
		same(t, what, all(after, taken, over), all(c.after, c.taken, c.over))
	}
}

// evenWater makes water of one amount in so many cells.
func evenWater(amount int32, cells int) impl.Water {
	return water(slices.Repeat([]int32{amount}, cells)...)
}

// P12: invalid inputs.
func TestPromise12InvalidInputs(t *testing.T) {
	g, rain := exampleGutter(), evenly(1, 5)
	for _, bad := range badWaters() {
		after, taken, over, code := impl.MinuteOnce(g, bad, rain)
		fails(t, fmt.Sprint("a minute with ", bad), impl.ErrInvalid, all(after, taken, over, code))
		after, taken, over, code = impl.MinutesAll(g, bad, rain, 0)
		fails(t, fmt.Sprint("no minutes with ", bad), impl.ErrInvalid, all(after, taken, over, code))
	}
	for _, bad := range badShowers() {
		after, taken, over, code := impl.MinuteOnce(g, impl.Water{}, bad)
		fails(t, fmt.Sprint("a minute with ", bad), impl.ErrRange, all(after, taken, over, code))
		after, taken, over, code = impl.MinutesAll(g, impl.Water{}, bad, 0)
		fails(t, fmt.Sprint("no minutes with ", bad), impl.ErrRange, all(after, taken, over, code))
	}
	for _, minutes := range []int64{-1, 201, math.MinInt64, math.MaxInt64, 1 << 32, 1<<32 + 1} {
		after, taken, over, code := impl.MinutesAll(g, impl.Water{}, rain, minutes)
		fails(t, fmt.Sprint(minutes, " minutes"), impl.ErrRange, all(after, taken, over, code))
	}
	for what, bad := range badGutters() {
		after, taken, over, code := impl.MinuteOnce(bad, impl.Water{}, rain)
		fails(t, "a minute with "+what, impl.ErrInvalid, all(after, taken, over, code))
	}
}

// pipesAt makes pipes at cells.
func pipesAt(cells []int64) []impl.Pipe {
	var list []impl.Pipe
	for _, cell := range cells {
		list = append(list, impl.Pipe{At: int8(cell), Takes: 1})
	}
	return list
}

// undrainedWith returns how many cells are undrained with pipes at some cells; it asks the program if there can be so many pipes.
func undrainedWith(t *testing.T, g impl.Gutter, cells []int64) int {
	t.Helper()
	g.Pipes = pipesAt(cells)
	if len(cells) > 4 {
		return len(undrainedIn(g))
	}
	list, code := impl.Undrained(g)
	same(t, fmt.Sprint("code of ", g), code, int64(0))
	return len(list)
}

// checkFewest asserts that with the fewest pipes nothing is undrained, and that something is without any one of them.
func checkFewest(t *testing.T, g impl.Gutter) {
	t.Helper()
	cells, code := impl.FewestPipes(g)
	same(t, fmt.Sprint("fewest pipes of ", g), all(cells, code), all(lowIn(g), int64(0)))
	same(t, fmt.Sprint("undrained with the pipes of ", g), undrainedWith(t, g, cells), 0)
	for i := range cells {
		others := slices.Delete(slices.Clone(cells), i, i+1)
		same(t, fmt.Sprint("undrained with one less of ", g), undrainedWith(t, g, others) > 0, true)
	}
}

// P13: with the fewest pipes nothing is undrained.
func TestPromise13FewestPipes(t *testing.T) {
	for cells := 1; cells <= 4; cells++ {
		for i, g := range everyGutter(cells) {
			if cells < 4 || i%4 == 0 {
				checkFewest(t, g)
			}
		}
	}
	for _, g := range append(edgeGutters(), sampleGutters(102, 60)...) {
		checkFewest(t, g)
	}
}

// P13: no other pipes that are as few are enough: of all lists of up to four cells.
func TestPromise13AllPipes(t *testing.T) {
	seen := map[string]bool{}
	for _, g := range sampleGutters(103, 10) {
		g.Pipes = nil
		if g.Cells > 7 || seen[impl.GutterText(g)] {
			continue
		}
		seen[impl.GutterText(g)] = true
		fewest, _ := impl.FewestPipes(g)
		for set := range 1 << g.Cells {
			var cells []int64
			for cell := range int64(g.Cells) {
				if set>>cell&1 == 1 {
					cells = append(cells, cell)
				}
			}
			if len(cells) <= min(4, len(fewest)) {
				same(t, fmt.Sprint("pipes of ", g, " at ", cells), undrainedWith(t, g, cells) == 0, slices.Equal(cells, fewest))
			}
		}
	}
}

// P13: the edge cases: one cell, a slope, level cells, leaves, and pipes that are there, which are not looked at.
func TestPromise13EdgeCases(t *testing.T) {
	all17 := []int64{0, 1, 2, 3, 4, 5, 6, 7, 8, 9, 10, 11, 12, 13, 14, 15, 16}
	for _, c := range []struct {
		g    impl.Gutter
		want []int64
	}{
		{gutter(0, "0", "."), []int64{0}},
		{gutter(0, "9", "l", 0, 5), []int64{0}},
		{gutter(0, "01", ".."), []int64{0}},
		{gutter(0, "10", ".."), []int64{1}},
		{gutter(0, "11", ".."), []int64{0, 1}},
		{gutter(0, "10", "l."), []int64{0, 1}},
		{gutter(0, "10", ".l"), []int64{1}},
		{gutter(0, "10", "..", 0, 5), []int64{1}},
		{gutter(0, "210", "...", 0, 5, 1, 5, 2, 5), []int64{2}},
		{gutter(0, "210", ".l.", 1, 5), []int64{1, 2}},
		{gutter(0, "21012", "....."), []int64{2}},
		{gutter(0, "12321", "....."), []int64{0, 4}},
		{gutter(0, "01010", "....."), []int64{0, 2, 4}},
		{gutter(0, "98765432100000000", "................."), []int64{9, 10, 11, 12, 13, 14, 15, 16}},
		{gutter(0, "90909090909090909", "................."), []int64{1, 3, 5, 7, 9, 11, 13, 15}},
		{gutter(0, strings.Repeat("9", 17), strings.Repeat(".", 17)), all17},
		{gutter(0, "98765432123456789", strings.Repeat("l", 17)), all17},
	} {
		checkFewest(t, c.g)
		cells, code := impl.FewestPipes(c.g)
		same(t, fmt.Sprint("fewest pipes of ", c.g), all(cells, code), all(c.want, int64(0)))
	}
}

// P13, by the chapter's guarantees: a cell that flows is drained, or ends where water stays; and a gutter that slopes to its pipes is drained, as far as it does.
func TestPromise13DrainedOrStays(t *testing.T) {
	for _, g := range sampleGutters(104, 40) {
		undrained, _ := impl.Undrained(g)
		flows, _ := impl.FlowsTo(g)
		for cell := range int64(g.Cells) {
			end, code := impl.EndOf(g, cell)
			_, piped := takesIn(g, int(end))
			same(t, fmt.Sprint("end of ", cell, " of ", g), all(code, flows[end], slices.Contains(undrained, cell)), all(int64(0), int64(-1), !piped))
		}
		if slope, code := impl.SlopeTo(int64(g.Cells), 10, g.Pipes); code == impl.OK {
			list, _ := impl.Undrained(slope)
			far := slices.DeleteFunc(list, func(cell int64) bool { return nearest(g.Pipes, int8(cell)) == 9 })
			same(t, fmt.Sprint("undrained of ", slope), len(far), 0)
		}
	}
}

// P13: invalid inputs.
func TestPromise13InvalidInputs(t *testing.T) {
	for what, bad := range badGutters() {
		got := callsOfGutter(bad, 0)
		for _, name := range []string{"FewestPipes", "Undrained", "FlowsTo", "EndOf", "BasinOf"} {
			fails(t, name+" with "+what, impl.ErrInvalid, got[name])
		}
	}
	for _, cell := range append(farNumbers(), 5, 16, 17) {
		end, code := impl.EndOf(exampleGutter(), cell)
		fails(t, fmt.Sprint("end of ", cell), impl.ErrRange, all(end, code))
		list, code := impl.BasinOf(exampleGutter(), cell)
		fails(t, fmt.Sprint("basin of ", cell), impl.ErrRange, all(list, code))
	}
}
