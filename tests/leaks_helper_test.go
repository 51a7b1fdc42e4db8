package tests

import (
	"fmt"
	"math"
	"slices"

	"loop.example/g01376/impl"
)

// frameOf returns a roof with whole tiles alone.
func frameOf(r impl.Roof) impl.Roof {
	return impl.Roof{Wide: r.Wide, High: r.High, Shift: r.Shift}
}

// wrongIn returns the places of all tiles that are not whole.
func wrongIn(r impl.Roof) []impl.Place {
	return placesWhere(r, func(at impl.Place) bool { return kindIn(r, at) != impl.TiWhole })
}

// withWrong returns a roof with at most so many of its tiles that are not whole; which ones are mended follows from the numbers.
func withWrong(r impl.Roof, n *numbers, most int) impl.Roof {
	for wrong := wrongIn(r); len(wrong) > most; wrong = wrongIn(r) {
		r = mendedAt(r, wrong[n.below(len(wrong))])
	}
	return r
}

// everyRoof returns all roofs of a size and shift, ordered by their kinds as lists.
func everyRoof(frame impl.Roof) []impl.Roof {
	list := []impl.Roof{frame}
	for _, at := range placesIn(frame) {
		var longer []impl.Roof
		for _, r := range list {
			for kind := range uint8(4) {
				r.Tiles[at.Course][at.Tile] = kind
				longer = append(longer, r)
			}
		}
		list = longer
	}
	return list
}

// seen are drips, with all roofs that have them, ordered.
type seen struct {
	drips impl.Drips
	roofs []impl.Roof
}

// everySeen returns all drips that the roofs of a size and shift have, ordered by their first roofs.
func everySeen(frame impl.Roof, w impl.Rain) []seen {
	var list []seen
	index := map[impl.Drips]int{}
	for _, r := range everyRoof(frame) {
		drips := runningOf(r, w).drips
		i, found := index[drips]
		if !found {
			i = len(list)
			index[drips] = i
			list = append(list, seen{drips: drips})
		}
		list[i].roofs = append(list[i].roofs, r)
	}
	return list
}

// smallFrames has all sizes and shifts of roofs with at most so many tiles.
func smallFrames(tiles int8) []impl.Roof {
	var list []impl.Roof
	for wide := int8(1); wide <= min(tiles, 8); wide++ {
		for high := int8(1); high <= min(tiles/wide, 8); high++ {
			for shift := range uint8(2) {
				list = append(list, impl.Roof{Wide: wide, High: high, Shift: shift})
			}
		}
	}
	return list
}

// smallRains has rain for a small roof: none, 1, 2 and 6 on each cell, and some of little.
func smallRains(r impl.Roof) []impl.Rain {
	n := numbers(uint64(r.Wide)*16 + uint64(r.High)*2 + uint64(r.Shift))
	return []impl.Rain{{}, evenOf(r, 1), evenOf(r, 2), evenOf(r, 6), someRain(r, &n, 3), someRain(r, &n, 5), someRain(r, &n, 10)}
}

// eachSeen calls a function for what may be seen of small roofs: a few of all drips, for each size, shift and rain.
func eachSeen(tiles int8, few int, f func(frame impl.Roof, w impl.Rain, s seen)) {
	for _, frame := range smallFrames(tiles) {
		for _, w := range smallRains(frame) {
			list := everySeen(frame, w)
			for i := 0; i < len(list); i += len(list)/few + 1 {
				f(frame, w, list[i])
			}
		}
	}
}

// fewestIn returns the first roof with the fewest wrong tiles.
func fewestIn(list []impl.Roof) impl.Roof {
	fewest := list[0]
	for _, r := range list {
		if len(wrongIn(r)) < len(wrongIn(fewest)) {
			fewest = r
		}
	}
	return fewest
}

// kindsIn returns the bits of all kinds that a tile has in some of the roofs.
func kindsIn(list []impl.Roof, at impl.Place) uint8 {
	var bits uint8
	for _, r := range list {
		bits |= 1 << kindIn(r, at)
	}
	return bits
}

// couldDrip reports whether so much of the water that comes to a tile of a kind can drip, by what goes on.
func couldDrip(kind, water, drip int64) bool {
	switch kind {
	case impl.TiWhole:
		return drip == 0
	case impl.TiCracked:
		return water-drip == water/2
	case impl.TiSlipped:
		return water-drip == water*2/3
	}
	return drip == 0 || drip == water
}

// comesIn returns how much comes to each course and each cell.
func comesIn(r impl.Roof, w impl.Rain, d impl.Drips) impl.Drips {
	var comes impl.Drips
	for course := range int(r.High) {
		for cell := range acrossOf(r) {
			above := sumOf(d, func(c, k int) bool { return c < course && k == cell })
			comes[course][cell] = int32(int64(w[cell]) - above)
		}
	}
	return comes
}

// unsoundDrips has drips that are not sound for a roof and rain, by what is wrong with them.
func unsoundDrips(r impl.Roof, w impl.Rain) map[string]impl.Drips {
	list := map[string]impl.Drips{}
	change := func(what string, course, cell int, drip int32) {
		d := runningOf(r, w).drips
		d[course][cell] = drip
		list[what] = d
	}
	high, cells := int(r.High), acrossOf(r)
	change("-1 in the first place", 0, 0, -1)
	change("-1 in the last place", high-1, cells-1, -1)
	change("the least number", high/2, cells/2, math.MinInt32)
	change("the greatest number", high/2, cells/2, math.MaxInt32)
	change("more than the rain in the first place", 0, 0, int32(w[0])+1)
	change("more than the rain in the last place", high-1, cells-1, int32(w[cells-1])+1)
	for course := high; course < 8; course++ {
		change(fmt.Sprint("1 in the course ", course), course, 0, 1)
		change(fmt.Sprint("-1 in the course ", course), course, cells-1, -1)
	}
	for cell := cells; cell < 17; cell++ {
		change(fmt.Sprint("1 in the cell ", cell), 0, cell, 1)
		change(fmt.Sprint("-1 in the cell ", cell), high-1, cell, -1)
	}
	for cell := range cells {
		d := runningOf(r, w).drips
		d[high-1][cell] += int32(runningOf(r, w).gutter[cell]) + 1
		list[fmt.Sprint("1 more than the rain, together, in the cell ", cell)] = d
	}
	return list
}

// listsIn returns all lists of some of the places, ordered, at most so many.
func listsIn(places []impl.Place, most int) [][]impl.Place {
	var lists [][]impl.Place
	for mask := range 1 << len(places) {
		var list []impl.Place
		for i, at := range places {
			if mask>>i&1 == 1 {
				list = append(list, at)
			}
		}
		if len(list) <= most {
			lists = append(lists, list)
		}
	}
	slices.SortFunc(lists, compareLists)
	return lists
}

// compareLists orders lists of places as the document orders lists.
func compareLists(a, b []impl.Place) int {
	return slices.CompareFunc(a, b, func(x, y impl.Place) int {
		return (int(x.Course)-int(y.Course))*100 + int(x.Tile) - int(y.Tile)
	})
}

// dripsAfter returns how much drips if the tiles of a list are whole.
func dripsAfter(r impl.Roof, w impl.Rain, list []impl.Place) int64 {
	for _, at := range list {
		r = mendedAt(r, at)
	}
	return dripsOf(r, w)
}

// needlessIn returns the indices of the places of a list without which no more drips than the bound.
func needlessIn(r impl.Roof, w impl.Rain, list []impl.Place, bound int64) []int64 {
	var indices []int64
	for i := range list {
		without := slices.Concat(list[:i], list[i+1:])
		if dripsAfter(r, w, without) <= bound {
			indices = append(indices, int64(i))
		}
	}
	return indices
}

// groupsIn numbers roofs by their drips: each one has the number of the first one with the same drips, or the next number.
func groupsIn(list []impl.Roof, w impl.Rain) []int64 {
	var groups []int64
	var next int64
	for i, r := range list {
		drips := runningOf(r, w).drips
		same := slices.IndexFunc(list[:i], func(other impl.Roof) bool { return runningOf(other, w).drips == drips })
		if same >= 0 {
			groups = append(groups, groups[same])
			continue
		}
		groups = append(groups, next)
		next++
	}
	return groups
}

// someCases makes some roofs of one size and shift, of which some have few wrong tiles, and some come twice.
func someCases(n *numbers, many int) []impl.Roof {
	frame := impl.Roof{Wide: int8(n.below(8) + 1), High: int8(n.below(8) + 1), Shift: uint8(n.below(2))}
	var list []impl.Roof
	for i := range many {
		r := frame
		if i > 0 && n.below(3) == 0 {
			r = list[n.below(i)]
		}
		for range n.below(3) {
			at := placesIn(r)[n.below(len(placesIn(r)))]
			r.Tiles[at.Course][at.Tile] = uint8(n.below(4))
		}
		list = append(list, r)
	}
	return list
}

// callsOfSeen has the results of all functions that take a roof, rain and drips; for those with a place or a kind, too.
func callsOfSeen(r impl.Roof, w impl.Rain, d impl.Drips, at impl.Place, kind int64) map[string]results {
	list := callsOfPlaces(r, w, d)
	comes, code := impl.ComesTo(r, w, d)
	list["ComesTo"] = all(comes, code)
	kinds, code := impl.KindsFor(r, w, d, at)
	list["KindsFor"] = all(kinds, code)
	is, code := impl.Explains(r, w, d)
	list["Explains"] = all(is, code)
	few, wrong, code := impl.FewestWrong(r, w, d)
	list["FewestWrong"] = all(few, wrong, code)
	many, code := impl.CountRoofs(r, w, d)
	list["CountRoofs"] = all(many, code)
	is, code = impl.MayBe(r, w, d, at, kind)
	list["MayBe"] = all(is, code)
	return list
}

// callsOfPlaces has the results of SurelyWrong and SurelyWhole.
func callsOfPlaces(r impl.Roof, w impl.Rain, d impl.Drips) map[string]results {
	wrong, one := impl.SurelyWrong(r, w, d)
	whole, two := impl.SurelyWhole(r, w, d)
	return map[string]results{"SurelyWrong": all(wrong, one), "SurelyWhole": all(whole, two)}
}

// callsOfRepairs has the results of all functions about repairs.
func callsOfRepairs(r impl.Roof, w impl.Rain, places []impl.Place, number int64) map[string]results {
	list := map[string]results{}
	sum, code := impl.DripAfter(r, w, places)
	list["DripAfter"] = all(sum, code)
	is, code := impl.CheckRepairs(r, w, places, number)
	list["CheckRepairs"] = all(is, code)
	fewest, code := impl.FewestRepairs(r, w, number)
	list["FewestRepairs"] = all(fewest, code)
	needless, code := impl.NeedlessRepairs(r, w, places, number)
	list["NeedlessRepairs"] = all(needless, code)
	best, sum, code := impl.LeastDrip(r, w, number)
	list["LeastDrip"] = all(best, sum, code)
	return list
}

// callsOfCases has the results of the functions that tell roofs apart.
func callsOfCases(cases []impl.Roof, w impl.Rain, amount int64) map[string]results {
	groups, one := impl.GroupsOf(cases, w)
	cell, many, two := impl.BestCell(cases, amount)
	return map[string]results{"GroupsOf": all(groups, one), "BestCell": all(cell, many, two)}
}
