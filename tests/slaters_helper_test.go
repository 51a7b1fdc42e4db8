package tests

import (
	"cmp"
	"maps"
	"slices"

	"loop.example/g01376/impl"
)

// work has an argument of each sort that the functions of chapter 4 take beside a roof.
type work struct {
	at    impl.Place
	cells []int64
	list  []impl.Place
	cell  int64
	start int64
	reach int64
	carry int64
	each  int64
}

// The functions of chapter 4, by the arguments that they take; noTwice are those for which no place may come twice.
var (
	takeCells = []string{"CanReach", "LadderFor", "WalkFor", "LeastWalk", "PushBack", "TilesNeeded"}
	takeList  = []string{"CanReach", "FewestLadders", "LadderFor", "ClimbsFor", "LeastClimb", "IsUpward", "FirstUpward", "LiftedFor", "LeastLifted", "JobTime"}
	takeReach = []string{"ReachFrom", "CanReach", "FewestLadders", "LadderFor", "PushBack", "TilesNeeded"}
	takeStart = []string{"WalkFor", "LeastWalk"}
	takeCarry = []string{"ClimbsFor", "LeastClimb", "JobTime"}
	noTwice   = []string{"IsUpward", "FirstUpward", "LiftedFor", "LeastLifted", "JobTime"}
)

// callsOfWork has the results of all functions of chapter 4 that take a roof.
func callsOfWork(r impl.Roof, w work) map[string]results {
	list := callsOfLadders(r, w)
	maps.Copy(list, callsOfClimbs(r, w))
	maps.Copy(list, callsOfOrders(r, w))
	return list
}

func callsOfLadders(r impl.Roof, w work) map[string]results {
	list := map[string]results{}
	places, code := impl.ReachFrom(r, w.cell, w.reach)
	list["ReachFrom"] = all(places, code)
	can, code := impl.CanReach(r, w.cells, w.reach, w.list)
	list["CanReach"] = all(can, code)
	cells, code := impl.FewestLadders(r, w.reach, w.list)
	list["FewestLadders"] = all(cells, code)
	indices, code := impl.LadderFor(r, w.cells, w.reach, w.list)
	list["LadderFor"] = all(indices, code)
	walk, code := impl.WalkFor(r, w.cells, w.start)
	list["WalkFor"] = all(walk, code)
	order, walk, code := impl.LeastWalk(r, w.cells, w.start)
	list["LeastWalk"] = all(order, walk, code)
	pushed, places, code := impl.PushBack(r, w.cells, w.reach)
	list["PushBack"] = all(pushed, places, code)
	many, code := impl.TilesNeeded(r, w.cells, w.reach)
	list["TilesNeeded"] = all(many, code)
	return list
}

func callsOfClimbs(r impl.Roof, w work) map[string]results {
	list := map[string]results{}
	rungs, code := impl.ClimbTo(r, w.at)
	list["ClimbTo"] = all(rungs, code)
	rungs, code = impl.ClimbsFor(r, w.list, w.carry)
	list["ClimbsFor"] = all(rungs, code)
	rungs, code = impl.LeastClimb(r, w.list, w.carry)
	list["LeastClimb"] = all(rungs, code)
	time, code := impl.JobTime(r, w.list, w.carry, w.each)
	list["JobTime"] = all(time, code)
	return list
}

func callsOfOrders(r impl.Roof, w work) map[string]results {
	list := map[string]results{}
	is, code := impl.IsUpward(r, w.list)
	list["IsUpward"] = all(is, code)
	order, code := impl.FirstUpward(r, w.list)
	list["FirstUpward"] = all(order, code)
	cost, code := impl.LiftedFor(r, w.list)
	list["LiftedFor"] = all(cost, code)
	order, cost, code = impl.LeastLifted(r, w.list)
	list["LeastLifted"] = all(order, cost, code)
	return list
}

// callsOfDays has the results of the functions about days.
func callsOfDays(times []int64, shift int64) map[string]results {
	first, many, one := impl.DaysFor(times, shift)
	fewest, few, two := impl.FewestDays(times, shift)
	return map[string]results{"DaysFor": all(first, many, one), "FewestDays": all(fewest, few, two)}
}

// workCode returns the code that a function has to return for a valid roof.
func workCode(name string, r impl.Roof, w work) int64 {
	takes := func(names []string) bool { return slices.Contains(names, name) }
	isNoCell := func(cell int64) bool { return cell < 0 || cell >= int64(acrossOf(r)) }
	isNoPlace := func(at impl.Place) bool { return !slices.Contains(placesIn(r), at) }
	switch {
	case name == "ReachFrom" && isNoCell(w.cell), takes(takeStart) && isNoCell(w.start),
		takes(takeCells) && slices.ContainsFunc(w.cells, isNoCell),
		takes(takeList) && slices.ContainsFunc(w.list, isNoPlace), name == "ClimbTo" && isNoPlace(w.at),
		takes(takeReach) && (w.reach < 0 || w.reach > 8),
		takes(takeCarry) && (w.carry < 1 || w.carry > 20),
		name == "JobTime" && (w.each < 0 || w.each > 1000):
		return impl.ErrRange
	case takes(takeCells) && len(w.cells) > 8, takes(takeList) && len(w.list) > 8:
		return impl.ErrLimit
	case takes(noTwice) && comeTwice(w.list):
		return impl.ErrState
	case name == "LadderFor" && slices.Contains(laddersIn(r, w.cells, w.reach, w.list), -1):
		return impl.ErrNotFound
	}
	return impl.OK
}

// comeTwice reports whether a place of a list comes again.
func comeTwice(list []impl.Place) bool {
	for i, at := range list {
		if slices.Contains(list[:i], at) {
			return true
		}
	}
	return false
}

func apart(a, b int64) int64 {
	if a < b {
		return b - a
	}
	return a - b
}

// isNear reports whether one of the two cells of a tile is near enough to a ladder.
func isNear(r impl.Roof, ladder, reach int64, at impl.Place) bool {
	first := firstCell(r, at)
	return apart(ladder, first) <= reach || apart(ladder, first+1) <= reach
}

// laddersIn returns for each place the index of the first ladder that is near enough, or -1.
func laddersIn(r impl.Roof, cells []int64, reach int64, list []impl.Place) []int64 {
	var indices []int64
	for _, at := range list {
		index := int64(-1)
		for i := len(cells) - 1; i >= 0; i-- {
			if isNear(r, cells[i], reach, at) {
				index = int64(i)
			}
		}
		indices = append(indices, index)
	}
	return indices
}

// fewestCellsIn goes through all ascending lists of cells, the shorter ones first, those of one length as they come.
func fewestCellsIn(r impl.Roof, reach int64, list []impl.Place) []int64 {
	for many := 0; ; many++ {
		if cells, found := cellsThatReach(r, reach, list, many, nil); found {
			return cells
		}
	}
}

// cellsThatReach returns the first list of so many cells that begins as is told, and from which all places are reached.
func cellsThatReach(r impl.Roof, reach int64, list []impl.Place, many int, cells []int64) ([]int64, bool) {
	if len(cells) == many {
		return slices.Clone(cells), !slices.Contains(laddersIn(r, cells, reach, list), -1)
	}
	next := int64(0)
	if len(cells) > 0 {
		next = cells[len(cells)-1] + 1
	}
	for ; next < int64(acrossOf(r)); next++ {
		if longer, found := cellsThatReach(r, reach, list, many, append(cells, next)); found {
			return longer, true
		}
	}
	return nil, false
}

// ordersOf returns all orders of a list.
func ordersOf[T any](list []T) [][]T {
	if len(list) == 0 {
		return [][]T{nil}
	}
	var orders [][]T
	for i := range list {
		for _, rest := range ordersOf(slices.Concat(list[:i], list[i+1:])) {
			orders = append(orders, append([]T{list[i]}, rest...))
		}
	}
	return orders
}

// bestOrder returns the order of a list with the least cost, of several ones the one that comes first, and this cost.
func bestOrder[T any](list []T, compare func(a, b []T) int, cost func(list []T) int64) ([]T, int64) {
	best := slices.MinFunc(ordersOf(list), func(a, b []T) int {
		return cmp.Or(cmp.Compare(cost(a), cost(b)), compare(a, b))
	})
	return best, cost(best)
}

// walkIn returns how far a ladder is carried.
func walkIn(cells []int64, start int64) int64 {
	var walk int64
	for i, cell := range cells {
		if i == 0 {
			walk += apart(cell, start)
		} else {
			walk += apart(cell, cells[i-1])
		}
	}
	return walk
}

// climbsIn returns how many rungs are climbed.
func climbsIn(r impl.Roof, list []impl.Place, carry int64) int64 {
	highest := map[int64]int64{}
	for i, at := range list {
		climb := int64(i) / carry
		highest[climb] = max(highest[climb], int64(r.High)-int64(at.Course))
	}
	var rungs int64
	for _, up := range highest {
		rungs += up + up
	}
	return rungs
}

// upwardIn reports whether no place comes behind one that laps over it.
func upwardIn(r impl.Roof, list []impl.Place) bool {
	for i, at := range list {
		for _, before := range list[:i] {
			if lapsOver(r, before, at) {
				return false
			}
		}
	}
	return true
}

// liftedIn returns what lifting costs.
func liftedIn(r impl.Roof, list []impl.Place) int64 {
	var cost int64
	for i, at := range list {
		for _, above := range placesWhere(r, func(above impl.Place) bool { return lapsOver(r, above, at) }) {
			mended := slices.Contains(list[:i], above)
			if mended {
				cost += 2
			} else if kindIn(r, above) != impl.TiMissing {
				cost++
			}
		}
	}
	return cost
}

// plansIn returns all lists of days for jobs, each new day 1 greater than all before, with no more than shift on a day; they are ordered.
func plansIn(times []int64, shift int64) [][]int64 {
	plans := [][]int64{nil}
	for i := range times {
		var longer [][]int64
		for _, days := range plans {
			for day := int64(0); day <= daysIn(days); day++ {
				next := append(slices.Clone(days), day)
				if loadIn(times[:i+1], next, day) <= shift {
					longer = append(longer, next)
				}
			}
		}
		plans = longer
	}
	return plans
}

// daysIn returns how many days there are.
func daysIn(days []int64) int64 {
	if len(days) == 0 {
		return 0
	}
	return slices.Max(days) + 1
}

// loadIn returns how long the jobs of a day take.
func loadIn(times, days []int64, day int64) int64 {
	var load int64
	for i, time := range times {
		if days[i] == day {
			load += time
		}
	}
	return load
}

// someTiles makes a list of at most so many different places of a roof, with room behind them.
func someTiles(r impl.Roof, n *numbers, most int) []impl.Place {
	list := make([]impl.Place, 0, 30)
	for range n.below(most + 1) {
		if at := placesIn(r)[n.below(len(placesIn(r)))]; !slices.Contains(list, at) {
			list = append(list, at)
		}
	}
	return list
}

// someCells makes a list of at most so many cells, some of which may come twice, with room behind them.
func someCells(r impl.Roof, n *numbers, most int) []int64 {
	list := make([]int64, 0, 30)
	for range n.below(most + 1) {
		list = append(list, int64(n.below(acrossOf(r))))
	}
	return list
}

// someWork makes arguments that are as they have to be.
func someWork(r impl.Roof, n *numbers) work {
	return work{
		at:    placesIn(r)[n.below(len(placesIn(r)))],
		cells: someCells(r, n, 8),
		list:  someTiles(r, n, 6),
		cell:  int64(n.below(acrossOf(r))),
		start: int64(n.below(acrossOf(r))),
		reach: int64(n.below(9)),
		carry: int64(n.below(20) + 1),
		each:  int64(n.below(1001)),
	}
}
