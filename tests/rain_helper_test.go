package tests

import (
	"fmt"
	"math"

	"loop.example/g01376/impl"
)

// acrossOf returns how many cells a course of a roof has.
func acrossOf(r impl.Roof) int {
	return int(r.Wide) + int(r.Wide) + 1
}

// kindsOver has the kind of what covers each cell of each course; half tiles are whole.
func kindsOver(r impl.Roof) [8][17]int64 {
	var kinds [8][17]int64
	for _, at := range placesIn(r) {
		first := firstCell(r, at)
		kinds[at.Course][first] = kindIn(r, at)
		kinds[at.Course][first+1] = kindIn(r, at)
	}
	return kinds
}

// running is what comes to each course and each cell of a roof, what drips there, and what comes to the gutter.
type running struct {
	comes  [8][17]int64
	drips  impl.Drips
	gutter []int64
}

// runningOf finds this without the help of the program: it counts what goes on, rounded down, where the document counts what drips, rounded up.
func runningOf(r impl.Roof, w impl.Rain) running {
	var run running
	kinds := kindsOver(r)
	for cell := range acrossOf(r) {
		water := int64(w[cell])
		for course := range r.High {
			run.comes[course][cell] = water
			goesOn := water
			switch kinds[course][cell] {
			case impl.TiCracked:
				goesOn = water / 2
			case impl.TiSlipped:
				goesOn = water * 2 / 3
			case impl.TiMissing:
				if course == 0 || kinds[course-1][cell] != impl.TiSlipped {
					goesOn = 0
				}
			}
			run.drips[course][cell] = int32(water - goesOn)
			water = goesOn
		}
		run.gutter = append(run.gutter, water)
	}
	return run
}

// sumOf returns the sum of all drips for which a function is true.
func sumOf(d impl.Drips, f func(course, cell int) bool) int64 {
	var sum int64
	for course := range d {
		for cell := range d[course] {
			if f(course, cell) {
				sum += int64(d[course][cell])
			}
		}
	}
	return sum
}

// dripsOf returns the sum of all drips.
func dripsOf(r impl.Roof, w impl.Rain) int64 {
	return sumOf(runningOf(r, w).drips, func(course, cell int) bool { return true })
}

// cellDripsOf returns the sum of the drips of each cell.
func cellDripsOf(r impl.Roof, w impl.Rain) []int64 {
	drips := runningOf(r, w).drips
	var sums []int64
	for cell := range acrossOf(r) {
		sums = append(sums, sumOf(drips, func(course, other int) bool { return other == cell }))
	}
	return sums
}

// mendedAt returns a roof with one tile whole.
func mendedAt(r impl.Roof, at impl.Place) impl.Roof {
	r.Tiles[at.Course][at.Tile] = impl.TiWhole
	return r
}

// saveIn returns the save of a tile.
func saveIn(r impl.Roof, w impl.Rain, at impl.Place) int64 {
	return dripsOf(r, w) - dripsOf(mendedAt(r, at), w)
}

// bestIn returns the best save, the first one of several, and whether there is one.
func bestIn(r impl.Roof, w impl.Rain) (impl.Place, int64, bool) {
	wrong := placesWhere(r, func(at impl.Place) bool { return kindIn(r, at) != impl.TiWhole })
	if len(wrong) == 0 {
		return impl.Place{}, 0, false
	}
	best := wrong[len(wrong)-1]
	for i := len(wrong) - 1; i >= 0; i-- {
		if saveIn(r, w, wrong[i]) >= saveIn(r, w, best) {
			best = wrong[i]
		}
	}
	return best, saveIn(r, w, best), true
}

// rainOf builds rain from its first numbers.
func rainOf(amounts ...int16) impl.Rain {
	var w impl.Rain
	copy(w[:], amounts)
	return w
}

// evenOf builds the rain with one amount for all cells.
func evenOf(r impl.Roof, amount int64) impl.Rain {
	var w impl.Rain
	for cell := range acrossOf(r) {
		w[cell] = int16(amount)
	}
	return w
}

// someRain makes rain of amounts below a bound.
func someRain(r impl.Roof, n *numbers, bound int) impl.Rain {
	var w impl.Rain
	for cell := range acrossOf(r) {
		w[cell] = int16(n.below(bound))
	}
	return w
}

// sampleRains has rain for a roof: none, as much as there can be, that of one cell, little and much.
func sampleRains(r impl.Roof) []impl.Rain {
	n := numbers(uint64(r.Wide)*64 + uint64(r.High)*8 + uint64(r.Tiles[0][0]))
	var one impl.Rain
	one[n.below(acrossOf(r))] = 100
	return []impl.Rain{{}, evenOf(r, 1000), one, someRain(r, &n, 2), someRain(r, &n, 8), someRain(r, &n, 1001)}
}

// eachRain calls a function for all roofs and all rain of the samples.
func eachRain(f func(r impl.Roof, w impl.Rain)) {
	for _, r := range sampleRoofs() {
		for _, w := range sampleRains(r) {
			f(r, w)
		}
	}
}

// badRains has rain that is not valid for a roof, by what is wrong with it.
func badRains(r impl.Roof) map[string]impl.Rain {
	list := map[string]impl.Rain{}
	last := acrossOf(r) - 1
	change := func(what string, cell int, amount int16) {
		w := evenOf(r, 7)
		w[cell] = amount
		list[what] = w
	}
	change("-1 in the first cell", 0, -1)
	change("-1 in the last cell", last, -1)
	change("1001 in the first cell", 0, 1001)
	change("1001 in the last cell", last, 1001)
	change("the least number", last/2, math.MinInt16)
	change("the greatest number", last/2, math.MaxInt16)
	for cell := last + 1; cell < 17; cell++ {
		change(fmt.Sprint("1 behind the cells, at ", cell), cell, 1)
		change(fmt.Sprint("-1 behind the cells, at ", cell), cell, -1)
	}
	return list
}

// callsOfRain has the results of all functions with a code that take a roof and rain, and no other argument.
func callsOfRain(r impl.Roof, w impl.Rain) map[string]results {
	list := map[string]results{}
	sum, code := impl.RainSum(r, w)
	list["RainSum"] = all(sum, code)
	drips, gutter, code := impl.RunDown(r, w)
	list["RunDown"] = all(drips, gutter, code)
	sum, code = impl.DripSum(r, w)
	list["DripSum"] = all(sum, code)
	sums, code := impl.CourseDrips(r, w)
	list["CourseDrips"] = all(sums, code)
	sums, code = impl.CellDrips(r, w)
	list["CellDrips"] = all(sums, code)
	course, cell, code := impl.FirstDrip(r, w)
	list["FirstDrip"] = all(course, cell, code)
	cell, sum, code = impl.WorstCell(r, w)
	list["WorstCell"] = all(cell, sum, code)
	places, code := impl.WetTiles(r, w)
	list["WetTiles"] = all(places, code)
	places, code = impl.DryTiles(r, w)
	list["DryTiles"] = all(places, code)
	at, sum, code := impl.BestSave(r, w)
	list["BestSave"] = all(at, sum, code)
	return list
}

// callsWithRain has the results of all functions with a code that take a roof and rain.
func callsWithRain(r impl.Roof, w impl.Rain, at impl.Place, number int64) map[string]results {
	list := callsOfRain(r, w)
	less, code := impl.SaveOf(r, w, at)
	list["SaveOf"] = all(less, code)
	places, code := impl.MendUntil(r, w, number)
	list["MendUntil"] = all(places, code)
	pails, code := impl.PailsFor(r, w, number)
	list["PailsFor"] = all(pails, code)
	times, code := impl.FillTimes(r, w, number)
	list["FillTimes"] = all(times, code)
	return list
}

// callsForRain has the results of all functions with a code of chapter 2 that take a roof alone, or with a number or a text.
func callsForRain(r impl.Roof, number int64, text string) map[string]results {
	list := map[string]results{}
	w, code := impl.EvenRain(r, number)
	list["EvenRain"] = all(w, code)
	least, code := impl.LeastRain(r, number)
	list["LeastRain"] = all(least, code)
	w, code = impl.ReadRain(r, text)
	list["ReadRain"] = all(w, code)
	return list
}
