package tests

import (
	"maps"
	"math"
	"slices"
	"testing"

	"loop.example/g01376/impl"
)

// gutter makes a gutter of heights, of leaves, and of pairs of the cell of a pipe and what it takes, without the help of the program.
func gutter(deep int16, heights, leaves string, pipes ...int16) impl.Gutter {
	g := impl.Gutter{Cells: int8(len(heights)), Deep: deep}
	for cell := range len(heights) {
		g.Heights[cell] = int8(heights[cell] - '0')
		if leaves[cell] == 'l' {
			g.Leaves += 1 << cell
		}
	}
	for i := 0; i < len(pipes); i += 2 {
		g.Pipes = append(g.Pipes, impl.Pipe{At: int8(pipes[i]), Takes: pipes[i+1]})
	}
	return g
}

func water(amounts ...int32) impl.Water {
	var w impl.Water
	copy(w[:], amounts)
	return w
}

// evenly makes rain of one amount for so many cells.
func evenly(amount int64, cells int) []int64 {
	return slices.Repeat([]int64{amount}, cells)
}

// changedGutter returns a gutter of five cells, with leaves and two pipes, that is changed.
func changedGutter(change func(g *impl.Gutter)) impl.Gutter {
	g := gutter(10, "21012", "l....", 2, 3, 4, 1)
	change(&g)
	return g
}

// badGutters has gutters that are not valid, by what is wrong with them.
func badGutters() map[string]impl.Gutter {
	list := map[string]impl.Gutter{
		"nothing":                 {},
		"no cells, but deep":      {Deep: 10},
		"18 cells":                {Cells: 18},
		"cells and deep at once":  {Cells: 18, Deep: -1},
		"leaves and no cells":     {Leaves: 1},
		"a pipe and no cells":     {Pipes: []impl.Pipe{{}}},
		"leaves behind 17 cells":  {Cells: 17, Leaves: 1 << 17},
		"the last bit of leaves":  {Cells: 17, Leaves: 1 << 31},
		"a pipe behind 17 cells":  {Cells: 17, Pipes: []impl.Pipe{{At: 17}}},
		"a height behind 16":      {Cells: 16, Heights: [17]int8{16: 1}},
		"a pipe at no cell alone": {Cells: 1, Pipes: []impl.Pipe{{At: 1}}},
	}
	for what, change := range badChanges() {
		list[what] = changedGutter(change)
	}
	return list
}

// badChanges make a gutter of five cells one that is not valid.
func badChanges() map[string]func(g *impl.Gutter) {
	pipes := func(list ...impl.Pipe) func(g *impl.Gutter) {
		return func(g *impl.Gutter) { g.Pipes = list }
	}
	return map[string]func(g *impl.Gutter){
		"cells 0":              func(g *impl.Gutter) { g.Cells = 0 },
		"cells -1":             func(g *impl.Gutter) { g.Cells = -1 },
		"cells 18":             func(g *impl.Gutter) { g.Cells = 18 },
		"cells 127":            func(g *impl.Gutter) { g.Cells = math.MaxInt8 },
		"cells -128":           func(g *impl.Gutter) { g.Cells = math.MinInt8 },
		"cells one less":       func(g *impl.Gutter) { g.Cells = 4 },
		"deep -1":              func(g *impl.Gutter) { g.Deep = -1 },
		"deep 1001":            func(g *impl.Gutter) { g.Deep = 1001 },
		"deep 32767":           func(g *impl.Gutter) { g.Deep = math.MaxInt16 },
		"deep -32768":          func(g *impl.Gutter) { g.Deep = math.MinInt16 },
		"height -1":            func(g *impl.Gutter) { g.Heights[0] = -1 },
		"height 10":            func(g *impl.Gutter) { g.Heights[4] = 10 },
		"height 127":           func(g *impl.Gutter) { g.Heights[2] = math.MaxInt8 },
		"height -128":          func(g *impl.Gutter) { g.Heights[2] = math.MinInt8 },
		"height of no cell":    func(g *impl.Gutter) { g.Heights[5] = 1 },
		"height at the end":    func(g *impl.Gutter) { g.Heights[16] = 9 },
		"height -1 of no cell": func(g *impl.Gutter) { g.Heights[9] = -1 },
		"leaves in no cell":    func(g *impl.Gutter) { g.Leaves = 1 << 5 },
		"leaves in the bit 16": func(g *impl.Gutter) { g.Leaves |= 1 << 16 },
		"leaves in the bit 17": func(g *impl.Gutter) { g.Leaves |= 1 << 17 },
		"leaves in the bit 31": func(g *impl.Gutter) { g.Leaves |= 1 << 31 },
		"leaves everywhere":    func(g *impl.Gutter) { g.Leaves = math.MaxUint32 },
		"pipes descending":     pipes(impl.Pipe{At: 3}, impl.Pipe{At: 1}),
		"last pipe first":      pipes(impl.Pipe{At: 1}, impl.Pipe{At: 3}, impl.Pipe{At: 0}),
		"two pipes at a cell":  pipes(impl.Pipe{At: 3, Takes: 1}, impl.Pipe{At: 3, Takes: 2}),
		"the same pipe twice":  pipes(impl.Pipe{}, impl.Pipe{}),
		"pipe at -1":           pipes(impl.Pipe{At: -1}),
		"pipe at -128":         pipes(impl.Pipe{At: math.MinInt8}),
		"pipe behind the end":  pipes(impl.Pipe{At: 5}),
		"second pipe at 127":   pipes(impl.Pipe{At: 1}, impl.Pipe{At: math.MaxInt8}),
		"takes -1":             pipes(impl.Pipe{At: 1, Takes: -1}),
		"takes 1001":           pipes(impl.Pipe{At: 1}, impl.Pipe{At: 2, Takes: 1001}),
		"takes 32767":          pipes(impl.Pipe{Takes: math.MaxInt16}),
		"takes -32768":         pipes(impl.Pipe{Takes: math.MinInt16}),
		"5 pipes":              pipes(impl.Pipe{At: 0}, impl.Pipe{At: 1}, impl.Pipe{At: 2}, impl.Pipe{At: 3}, impl.Pipe{At: 4}),
	}
}

// badWaters has water that is not valid for a gutter of five cells that are 10 deep.
func badWaters() []impl.Water {
	list := []impl.Water{water(-1), water(0, 0, 0, 0, -1), water(11), water(0, 0, 0, 0, 11), water(1, 2, 3, 4, 5, 1), water(-1, 1), water(math.MaxInt32), water(math.MinInt32), water(0, 0, 0, 0, 0, -1)}
	return append(list, impl.Water{16: 1}, impl.Water{5: 10}, impl.Water{0: 11, 16: 1})
}

// badShowers has rain that is not one for five cells.
func badShowers() [][]int64 {
	list := [][]int64{nil, {}, evenly(1, 4), evenly(1, 6), evenly(1, 17), evenly(0, 1)}
	for _, number := range []int64{-1, 1001, math.MinInt64, math.MaxInt64, 1 << 16, 1 << 32, -1 << 32} {
		list = append(list, []int64{number, 0, 0, 0, 0}, []int64{1, 1, 1, 1, number}, []int64{0, 0, number, number, 0})
	}
	return list
}

// someGutter makes a gutter of so many cells, with room behind its pipes.
func someGutter(n *numbers, cells int) impl.Gutter {
	deeps := []int16{0, 1, 2, 5, 10, 40, 300, 1000}
	g := impl.Gutter{Cells: int8(cells), Deep: deeps[n.below(len(deeps))], Pipes: make([]impl.Pipe, 0, 8)}
	highest := []int{1, 2, 3, 10}[n.below(4)]
	leafy, piped := n.below(6), n.below(6)
	for cell := range cells {
		g.Heights[cell] = int8(n.below(highest))
		if n.below(12) < leafy {
			g.Leaves |= 1 << cell
		}
		if n.below(12) < piped && len(g.Pipes) < 4 {
			takes := []int16{0, 1, 2, 4, 30, 999, 1000}[n.below(7)]
			g.Pipes = append(g.Pipes, impl.Pipe{At: int8(cell), Takes: takes})
		}
	}
	return g
}

// sampleGutters has so many gutters of each number of cells.
func sampleGutters(first numbers, many int) []impl.Gutter {
	var list []impl.Gutter
	for cells := 1; cells <= 17; cells++ {
		for range many {
			list = append(list, someGutter(&first, cells))
		}
	}
	return list
}

// everyGutter has all gutters of so many cells with heights of 0 to 2, with all leaves, and pipes at all cells, as far as these are no more than four.
func everyGutter(cells int) []impl.Gutter {
	list := []impl.Gutter{{Cells: int8(cells), Deep: 3}}
	for cell := range cells {
		var more []impl.Gutter
		for _, g := range list {
			for height := range int8(3) {
				for kind := range 4 {
					next := g
					next.Heights[cell] = height
					next.Leaves |= uint32(kind%2) << cell
					if kind > 1 {
						next.Pipes = append(slices.Clone(g.Pipes), impl.Pipe{At: int8(cell), Takes: int16(cell)})
					}
					more = append(more, next)
				}
			}
		}
		list = more
	}
	return list
}

// someWater makes water for a gutter.
func someWater(n *numbers, g impl.Gutter) impl.Water {
	var w impl.Water
	for cell := range g.Cells {
		switch n.below(3) {
		case 0:
			w[cell] = int32(g.Deep)
		case 1:
			w[cell] = int32(n.below(int(g.Deep) + 1))
		}
	}
	return w
}

// someShower makes rain for a gutter, with room behind it.
func someShower(n *numbers, g impl.Gutter) []int64 {
	rain := make([]int64, 0, 20)
	most := []int{1, 2, 4, 12, 1001}[n.below(5)]
	for range g.Cells {
		rain = append(rain, int64(n.below(most)))
	}
	return rain
}

func leavesIn(g impl.Gutter, cell int) bool {
	return g.Leaves/(1<<cell)%2 == 1
}

// takesIn returns how much the pipe at a cell takes, and whether there is one.
func takesIn(g impl.Gutter, cell int) (int64, bool) {
	for _, p := range g.Pipes {
		if int(p.At) == cell {
			return int64(p.Takes), true
		}
	}
	return 0, false
}

// flowIn returns the cell to which a cell flows, or -1, as the document tells it.
func flowIn(g impl.Gutter, cell int) int {
	_, piped := takesIn(g, cell)
	if piped || leavesIn(g, cell) {
		return -1
	}
	left := cell > 0 && g.Heights[cell-1] < g.Heights[cell]
	right := cell+1 < int(g.Cells) && g.Heights[cell+1] < g.Heights[cell]
	switch {
	case left && right && g.Heights[cell+1] < g.Heights[cell-1]:
		return cell + 1
	case left:
		return cell - 1
	case right:
		return cell + 1
	}
	return -1
}

func flowsIn(g impl.Gutter) []int64 {
	var list []int64
	for cell := range int(g.Cells) {
		list = append(list, int64(flowIn(g, cell)))
	}
	return list
}

// reachedBy returns all cells from which water comes to one of some cells, these as well; it adds those that flow to one until there are no more.
func reachedBy(g impl.Gutter, ends func(cell int) bool) []int64 {
	in := make([]bool, g.Cells)
	for range g.Cells {
		for cell := range in {
			to := flowIn(g, cell)
			in[cell] = to < 0 && ends(cell) || to >= 0 && in[to]
		}
	}
	var list []int64
	for cell, is := range in {
		if is {
			list = append(list, int64(cell))
		}
	}
	return list
}

func basinIn(g impl.Gutter, end int) []int64 {
	return reachedBy(g, func(cell int) bool { return cell == end })
}

func undrainedIn(g impl.Gutter) []int64 {
	return reachedBy(g, func(cell int) bool {
		_, piped := takesIn(g, cell)
		return !piped
	})
}

// endIn returns the cell in whose basin a cell is.
func endIn(g impl.Gutter, cell int64) int64 {
	for end := range int(g.Cells) {
		if slices.Contains(basinIn(g, end), cell) {
			return int64(end)
		}
	}
	return -1
}

// lowIn returns all cells that flow nowhere if there are no pipes.
func lowIn(g impl.Gutter) []int64 {
	g.Pipes = nil
	var list []int64
	for cell, to := range flowsIn(g) {
		if to < 0 {
			list = append(list, int64(cell))
		}
	}
	return list
}

// minuteIn returns what is in each cell behind a minute, each cell asking those beside it for what they give, what the pipes take, and what runs over.
func minuteIn(g impl.Gutter, before, rain []int64) (after []int64, taken, over int64) {
	stays := make([]int64, g.Cells)
	for cell := range stays {
		stays[cell] = before[cell] + rain[cell]
		if takes, piped := takesIn(g, cell); piped {
			takes = min(takes, stays[cell])
			stays[cell] -= takes
			taken += takes
		}
	}
	for cell := range stays {
		var all int64
		for from := range stays {
			if flowIn(g, from) == cell || from == cell && flowIn(g, from) < 0 {
				all += stays[from]
			}
		}
		if all > int64(g.Deep) {
			over += all - int64(g.Deep)
			all = int64(g.Deep)
		}
		after = append(after, all)
	}
	return after, taken, over
}

// minutesIn lets several minutes go by, from a gutter with water on, until something runs over if it shall end then; it also returns how many have gone by.
func minutesIn(g impl.Gutter, w impl.Water, rain []int64, minutes int64, endsOver bool) (impl.Water, int64, int64, int64) {
	var before []int64
	for _, amount := range w[:g.Cells] {
		before = append(before, int64(amount))
	}
	var taken, over, gone int64
	for gone < minutes && !(endsOver && over > 0) {
		after, more, spilt := minuteIn(g, before, rain)
		before, taken, over, gone = after, taken+more, over+spilt, gone+1
	}
	var behind impl.Water
	for cell, amount := range before {
		behind[cell] = int32(amount)
	}
	return behind, taken, over, gone
}

// firstOverIn returns the first of 200 minutes in which something runs over, or -1.
func firstOverIn(g impl.Gutter, rain []int64) int64 {
	_, _, over, gone := minutesIn(g, impl.Water{}, rain, 200, true)
	if over == 0 {
		return -1
	}
	return gone - 1
}

// drainIn returns behind how many minutes a gutter is empty, or -1.
func drainIn(g impl.Gutter, w impl.Water) int64 {
	for minutes := range int64(201) {
		if w == (impl.Water{}) {
			return minutes
		}
		w, _, _, _ = minutesIn(g, w, make([]int64, g.Cells), 1, false)
	}
	return -1
}

// bestCleanIn returns the cell without whose leaves the least runs over, or -1, and how much this is.
func bestCleanIn(g impl.Gutter, rain []int64, minutes int64) (int64, int64) {
	best, least := int64(-1), int64(0)
	for cell := range int(g.Cells) {
		if !leavesIn(g, cell) {
			continue
		}
		cleaned := g
		cleaned.Leaves -= 1 << cell
		_, _, over, _ := minutesIn(cleaned, impl.Water{}, rain, minutes, false)
		if best < 0 || over < least {
			best, least = int64(cell), over
		}
	}
	return best, least
}

// withTakes returns a gutter in which a pipe takes another number.
func withTakes(g impl.Gutter, pipe int, takes int16) impl.Gutter {
	g.Pipes = slices.Clone(g.Pipes)
	g.Pipes[pipe].Takes = takes
	return g
}

// leastTakesIn tries all numbers from 0 on, and returns the first one with which nothing runs over, or -1.
func leastTakesIn(g impl.Gutter, rain []int64, pipe int) int64 {
	for takes := range int16(1001) {
		if firstOverIn(withTakes(g, pipe, takes), rain) < 0 {
			return int64(takes)
		}
	}
	return -1
}

// finds asserts that a call returned a number, or, if this is -1, ErrNotFound and nothing else.
func finds(t *testing.T, name string, want int64, got results) {
	t.Helper()
	if want < 0 {
		fails(t, name, impl.ErrNotFound, got)
		return
	}
	same(t, name, got, all(want, int64(0)))
}

// callsOfGutter has the results of all functions with a code that take a gutter, and a cell of it or nothing else.
func callsOfGutter(g impl.Gutter, cell int64) map[string]results {
	list := map[string]results{}
	cells, code := impl.FlowsTo(g)
	list["FlowsTo"] = all(cells, code)
	end, code := impl.EndOf(g, cell)
	list["EndOf"] = all(end, code)
	cells, code = impl.BasinOf(g, cell)
	list["BasinOf"] = all(cells, code)
	cells, code = impl.Undrained(g)
	list["Undrained"] = all(cells, code)
	cells, code = impl.FewestPipes(g)
	list["FewestPipes"] = all(cells, code)
	other, code := impl.CleanLeaf(g, cell)
	list["CleanLeaf"] = all(other, code)
	other, code = impl.MirrorGutter(g)
	list["MirrorGutter"] = all(other, code)
	return list
}

// callsOfMinutes has the results of all functions that take rain as well, or water.
func callsOfMinutes(g impl.Gutter, w impl.Water, rain []int64, minutes, pipe int64) map[string]results {
	list := map[string]results{}
	after, taken, over, code := impl.MinuteOnce(g, w, rain)
	list["MinuteOnce"] = all(after, taken, over, code)
	after, taken, over, code = impl.MinutesAll(g, w, rain, minutes)
	list["MinutesAll"] = all(after, taken, over, code)
	first, code := impl.FirstOver(g, rain)
	list["FirstOver"] = all(first, code)
	time, code := impl.DrainTime(g, w)
	list["DrainTime"] = all(time, code)
	best, least, code := impl.BestClean(g, rain, minutes)
	list["BestClean"] = all(best, least, code)
	takes, code := impl.LeastTakes(g, rain, pipe)
	list["LeastTakes"] = all(takes, code)
	return list
}

// gutterCase has arguments of the functions of chapter 6.
type gutterCase struct {
	g                   impl.Gutter
	w                   impl.Water
	rain                []int64
	cell, minutes, pipe int64
}

// calls has the results of all functions with a code.
func (c gutterCase) calls() map[string]results {
	list := callsOfGutter(c.g, c.cell)
	maps.Copy(list, callsOfMinutes(c.g, c.w, c.rain, c.minutes, c.pipe))
	slope, code := impl.SlopeTo(c.cell, c.minutes, c.g.Pipes)
	list["SlopeTo"] = all(slope, code)
	read, code := impl.ReadGutter(impl.GutterText(c.g))
	list["ReadGutter"] = all(read, code)
	return list
}

// hasRain reports whether there is a number of rain for each cell.
func (c gutterCase) hasRain() bool {
	isNone := func(amount int64) bool { return amount < 0 || amount > 1000 }
	return len(c.rain) == int(c.g.Cells) && !slices.ContainsFunc(c.rain, isNone)
}

func (c gutterCase) hasWater() bool {
	for cell, amount := range c.w {
		if amount < 0 || amount > int32(c.g.Deep) || cell >= int(c.g.Cells) && amount != 0 {
			return false
		}
	}
	return true
}

func (c gutterCase) hasCell() bool {
	return 0 <= c.cell && c.cell < int64(c.g.Cells)
}

func (c gutterCase) hasMinutes() bool {
	return 0 <= c.minutes && c.minutes <= 200
}

func (c gutterCase) hasPipe() bool {
	return 0 <= c.pipe && c.pipe < int64(len(c.g.Pipes))
}

// code returns the code that a function has to return if the gutter is valid.
func (c gutterCase) code(name string) int64 {
	switch name {
	case "MinuteOnce", "MinutesAll", "DrainTime":
		if !c.hasWater() {
			return impl.ErrInvalid
		}
	}
	isThere := map[string]bool{
		"EndOf": c.hasCell(), "BasinOf": c.hasCell(), "CleanLeaf": c.hasCell(),
		"MinuteOnce": c.hasRain(), "FirstOver": c.hasRain(),
		"MinutesAll": c.hasRain() && c.hasMinutes(), "BestClean": c.hasRain() && c.hasMinutes(),
		"LeastTakes": c.hasRain() && c.hasPipe(),
		"SlopeTo":    1 <= c.cell && c.cell <= 17 && 0 <= c.minutes && c.minutes <= 1000 && !slices.ContainsFunc(c.g.Pipes, func(p impl.Pipe) bool { return int64(p.At) >= c.cell }),
	}
	if is, asked := isThere[name]; asked && !is {
		return impl.ErrRange
	}
	return c.lastCode(name)
}

// lastCode returns the code that a function has to return if all else is as told.
func (c gutterCase) lastCode(name string) int64 {
	isMissing := false
	switch name {
	case "CleanLeaf":
		if !leavesIn(c.g, int(c.cell)) {
			return impl.ErrState
		}
	case "FirstOver":
		isMissing = firstOverIn(c.g, c.rain) < 0
	case "DrainTime":
		isMissing = drainIn(c.g, c.w) < 0
	case "BestClean":
		isMissing = c.g.Leaves == 0
	case "LeastTakes":
		// No number is enough if the greatest one is not.
		isMissing = firstOverIn(withTakes(c.g, int(c.pipe), 1000), c.rain) >= 0
	case "SlopeTo":
		isMissing = len(c.g.Pipes) == 0
	}
	if isMissing {
		return impl.ErrNotFound
	}
	return impl.OK
}
