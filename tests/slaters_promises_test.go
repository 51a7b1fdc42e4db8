package tests

import (
	"fmt"
	"maps"
	"math"
	"slices"
	"testing"

	"loop.example/g01376/impl"
)

// eachWork calls a function for arguments of which some, or several at once, are out of their ranges, too many, or come twice.
func eachWork(r impl.Roof, f func(w work)) {
	bad, beyond := impl.Place{Course: r.High}, int64(acrossOf(r))
	cells := [][]int64{nil, {0, 0}, {0, 1, -1}, {beyond}, make([]int64, 8), make([]int64, 9), append(make([]int64, 9), beyond)}
	lists := [][]impl.Place{nil, places(0, 0), places(0, 0, 0, 0), {bad}, {{}, {}, bad}, make([]impl.Place, 8), make([]impl.Place, 9), append(make([]impl.Place, 9), bad), placesIn(r)[:min(len(placesIn(r)), 8)], placesIn(r)[:min(len(placesIn(r)), 9)]}
	for _, c := range cells {
		for _, list := range lists {
			for i, reach := range []int64{0, 8, -1, 9} {
				for j, carry := range []int64{1, 20, 0, 21} {
					each := []int64{0, 1000, -1, 1001}[(i+j)%4]
					cell := []int64{0, beyond - 1, -1, beyond}[(i+2*j)%4]
					start := []int64{0, beyond - 1, -1, beyond}[j]
					at := []impl.Place{{}, bad, {Tile: -1}}[j%3]
					f(work{at: at, cells: c, list: list, cell: cell, start: start, reach: reach, carry: carry, each: each})
				}
			}
		}
	}
}

// P1: several errors at once: the first one, by the document's order, is returned, with zero values beside it.
func TestPromise1OrderOfErrorsInSlaters(t *testing.T) {
	for _, r := range []impl.Roof{slatersRoof(), roof(".-"), roof("-o"), {Wide: 8, High: 8, Shift: 1}, {Wide: 1, High: 8}} {
		eachWork(r, func(w work) {
			for name, got := range callsOfWork(r, w) {
				if code := workCode(name, r, w); code != impl.OK {
					fails(t, fmt.Sprint(name, " with ", w), code, got)
				} else {
					same(t, fmt.Sprint(name, " with ", w), got.code(), code)
				}
			}
		})
	}
}

// P1: a roof that is not valid is refused ahead of all other errors, whatever the other arguments are.
func TestPromise1InvalidFirstInSlaters(t *testing.T) {
	for what, bad := range badRoofs() {
		eachWork(slatersRoof(), func(w work) {
			for name, got := range callsOfWork(bad, w) {
				if got.code() != impl.ErrInvalid || !got.isNothing() {
					fails(t, name+" with "+what, impl.ErrInvalid, got)
				}
			}
		})
	}
}

// refusesNumber asserts that the functions that take a number have no result for it.
func refusesNumber(t *testing.T, r impl.Roof, number int64) {
	t.Helper()
	good := work{cells: []int64{0, 1}, list: places(0, 0), carry: 1}
	refuses := func(names []string, change func(w *work)) {
		t.Helper()
		w := good
		change(&w)
		got := callsOfWork(r, w)
		for _, name := range names {
			fails(t, fmt.Sprint(name, " with ", w), impl.ErrRange, got[name])
		}
	}
	refuses(takeReach, func(w *work) { w.reach = number })
	refuses(takeStart, func(w *work) { w.start = number })
	refuses([]string{"ReachFrom"}, func(w *work) { w.cell = number })
	refuses(takeCells, func(w *work) { w.cells = []int64{number} })
	refuses(takeCells, func(w *work) { w.cells = []int64{0, number, 0} })
	refuses(takeCells, func(w *work) { w.cells = append(make([]int64, 20), number) })
	if number < 1 || number > 20 {
		refuses(takeCarry, func(w *work) { w.carry = number })
	}
	if number < 0 || number > 1000 {
		refuses([]string{"JobTime"}, func(w *work) { w.each = number })
	}
}

// P1: numbers, cells and places that are not there are refused, wherever they are in a list.
func TestPromise1RangeOfSlaters(t *testing.T) {
	for _, number := range append(farNumbers(), 17, 1000, 1001, 1<<16+1) {
		for _, r := range []impl.Roof{slatersRoof(), roof(".-"), {Wide: 7, High: 8}} {
			refusesNumber(t, r, number)
		}
	}
	for wide := int8(1); wide <= 8; wide++ {
		r := impl.Roof{Wide: wide, High: 1}
		w := work{cells: []int64{int64(acrossOf(r))}, cell: int64(acrossOf(r)), start: int64(acrossOf(r)), carry: 1}
		got := callsOfWork(r, w)
		for _, name := range append(takeCells, "ReachFrom") {
			fails(t, name+" behind the last cell", impl.ErrRange, got[name])
		}
	}
	r := slatersRoof()
	for _, bad := range append(badPlaces(), impl.Place{Course: r.High}, impl.Place{Tile: r.Wide}) {
		for _, list := range [][]impl.Place{{bad}, {{}, bad}, {bad, {}}, {{}, {}, bad}, append(make([]impl.Place, 20), bad)} {
			got := callsOfWork(r, work{at: bad, cells: []int64{0}, list: list, carry: 1})
			for _, name := range append(takeList, "ClimbTo") {
				fails(t, fmt.Sprint(name, " with ", bad), impl.ErrRange, got[name])
			}
		}
	}
}

// P1: as many places and cells as there can be, and one more, also where a place comes twice, which some functions refuse.
func TestPromise1LimitOfSlaters(t *testing.T) {
	for _, r := range []impl.Roof{{Wide: 8, High: 8}, {Wide: 3, High: 3, Shift: 1}} {
		tiles := placesIn(r)
		eight := work{at: tiles[8], cells: []int64{0, 1, 2, 3, 4, 5, 6, 0}, list: tiles[:8], cell: 3, start: 3, reach: 8, carry: 20, each: 1000}
		for name, got := range callsOfWork(r, eight) {
			same(t, name+" with 8", got.code(), int64(impl.OK))
		}
		nine := eight
		nine.cells, nine.list = append(eight.cells, 1), tiles[:9]
		twice := nine
		twice.list = append(slices.Clone(eight.list), tiles[0])
		for _, w := range []work{nine, twice} {
			got := callsOfWork(r, w)
			for _, name := range append(takeCells, takeList...) {
				fails(t, name+" with 9", impl.ErrLimit, got[name])
			}
			same(t, "ReachFrom has no list", got["ReachFrom"].code(), int64(impl.OK))
			same(t, "ClimbTo has no list", got["ClimbTo"].code(), int64(impl.OK))
		}
		for _, list := range [][]impl.Place{{tiles[0], tiles[0]}, {tiles[3], tiles[1], tiles[3]}, append(slices.Clone(tiles[:7]), tiles[6])} {
			w := eight
			w.list = list
			for name, got := range callsOfWork(r, w) {
				if slices.Contains(noTwice, name) {
					fails(t, name+" with a place twice", impl.ErrState, got)
				} else {
					same(t, name+" with a place twice", got.code(), int64(impl.OK))
				}
			}
		}
	}
}

// P1: every function returns for lists that are as long as they can be.
func TestPromise1LongListsOfSlaters(t *testing.T) {
	r := slatersRoof()
	w := work{cells: make([]int64, 500000), list: make([]impl.Place, 500000), carry: 1}
	got := callsOfWork(r, w)
	for _, name := range append(takeCells, takeList...) {
		fails(t, name, impl.ErrLimit, got[name])
	}
	w.cells[499999], w.list[499999] = -1, impl.Place{Tile: -1}
	got = callsOfWork(r, w)
	for _, name := range append(takeCells, takeList...) {
		fails(t, name, impl.ErrRange, got[name])
	}
	times := make([]int64, 1000000)
	for name, got := range callsOfDays(times, 1000) {
		fails(t, name, impl.ErrLimit, got)
	}
	times[999999] = -1
	for name, got := range callsOfDays(times, 1000) {
		fails(t, name, impl.ErrRange, got)
	}
}

// P1: every function returns, for numbers, cells and places of all kinds, with zero values beside an error.
func TestPromise1AllArgumentsOfSlaters(t *testing.T) {
	n := numbers(49)
	number := func() int64 {
		if n.below(8) == 0 {
			return everyNumber()[n.below(len(everyNumber()))]
		}
		return int64(n.below(9) + 1)
	}
	for i, r := range sampleRoofs() {
		for range 5 {
			w := work{at: badPlaces()[i%10], cells: []int64{number(), number()}, list: someTiles(r, &n, 9), cell: number(), start: number(), reach: number(), carry: number(), each: number()}
			if n.below(8) == 0 {
				w.list = append(w.list, badPlaces()[n.below(10)])
			}
			for name, got := range callsOfWork(r, w) {
				same(t, fmt.Sprint(name, " with ", w), got.code(), workCode(name, r, w))
				if got.code() != impl.OK {
					fails(t, name, got.code(), got)
				}
			}
			for name, got := range callsOfDays([]int64{number(), number(), number()}, number()) {
				if got.code() != impl.OK {
					fails(t, name, got.code(), got)
				}
			}
		}
	}
}

// P1: equal arguments have equal results, those of a second call after a change of the first results, too.
func TestPromise1EqualResultsOfSlaters(t *testing.T) {
	n := numbers(50)
	for _, r := range sampleRoofs() {
		w := someWork(r, &n)
		times, shift := someTimes(&n)
		returnTheSame(t, r, func() map[string]results {
			list := callsOfWork(r, w)
			maps.Copy(list, callsOfDays(times, shift))
			return list
		})
	}
}

// P1: no function changes a list, nor the room behind it, and nil lists are as empty ones.
func TestPromise1ListsOfSlatersAreKept(t *testing.T) {
	n := numbers(51)
	for _, r := range sampleRoofs() {
		w := someWork(r, &n)
		times, shift := someTimes(&n)
		cells, list, kept := slices.Clone(w.cells[:30]), slices.Clone(w.list[:30]), slices.Clone(times[:30])
		callsOfWork(r, w)
		callsOfDays(times, shift)
		same(t, "cells", w.cells[:30], cells)
		same(t, "places", w.list[:30], list)
		same(t, "times", times[:30], kept)
		w.cells, w.list = nil, nil
		empty := w
		empty.cells, empty.list = []int64{}, []impl.Place{}
		one, two := callsOfWork(r, w), callsOfWork(r, empty)
		for name := range one {
			same(t, name+" with nothing", fmt.Sprint(one[name]), fmt.Sprint(two[name]))
		}
	}
}

// reachedFromAll asserts that all places are reached from the ladders that are told, and returns these.
func reachedFromAll(t *testing.T, r impl.Roof, reach int64, list []impl.Place) []int64 {
	t.Helper()
	cells, code := impl.FewestLadders(r, reach, list)
	same(t, "code", code, int64(0))
	can, code := impl.CanReach(r, cells, reach, list)
	same(t, "all can be reached", all(can, code), all(true, int64(0)))
	indices, code := impl.LadderFor(r, cells, reach, list)
	same(t, "each one has a ladder", all(len(indices), code), all(len(list), int64(0)))
	for i := range cells {
		if len(list) > 0 {
			can, code = impl.CanReach(r, slices.Concat(cells[:i], cells[i+1:]), reach, list)
			same(t, "none is needless", all(can, code), all(false, int64(0)))
		}
	}
	return cells
}

// P8: all places can be reached from the ladders that are told, from no fewer ones, and from no earlier ones that are as few.
func TestPromise8FewestLadders(t *testing.T) {
	n := numbers(52)
	for _, r := range sampleRoofs() {
		for reach := range int64(9) {
			list := someTiles(r, &n, 8)
			same(t, fmt.Sprint("ladders for ", list, " with ", reach), reachedFromAll(t, r, reach, list), fewestCellsIn(r, reach, list))
		}
	}
}

// P8: of one course each pair of tiles, from one ladder or from two, for each reach.
func TestPromise8Pairs(t *testing.T) {
	for _, r := range []impl.Roof{{Wide: 8, High: 2}, {Wide: 8, High: 2, Shift: 1}, {Wide: 1, High: 2}, {Wide: 3, High: 2, Shift: 1}} {
		for reach := range int64(9) {
			for _, a := range placesIn(r) {
				for _, b := range placesIn(r) {
					list := []impl.Place{a, b}
					same(t, fmt.Sprint("ladders for ", list, " with ", reach), reachedFromAll(t, r, reach, list), fewestCellsIn(r, reach, list))
				}
			}
		}
	}
}

// P8: the edge cases: no places, places that come twice, several lists of as few ladders, edges of the roof, and as many places as there can be.
func TestPromise8EdgeCases(t *testing.T) {
	small, wide := roof("...-", "-..."), impl.Roof{Wide: 8, High: 2}
	for _, c := range []struct {
		r     impl.Roof
		reach int64
		list  []impl.Place
		want  []int64
	}{
		{small, 0, nil, nil},
		{small, 8, nil, nil},
		{small, 0, places(0, 0), []int64{0}},
		{small, 0, places(0, 2), []int64{4}},
		{small, 0, places(1, 0), []int64{1}},
		{small, 0, places(1, 2), []int64{5}},
		{small, 0, places(1, 2, 1, 2, 1, 2), []int64{5}},
		{small, 0, places(0, 0, 1, 0), []int64{1}},
		{small, 0, places(1, 0, 0, 1), []int64{2}},
		{small, 0, places(0, 1, 0, 0), []int64{0, 2}},
		{small, 0, places(0, 2, 1, 2), []int64{5}},
		{small, 1, places(0, 1, 0, 0), []int64{1}},
		{small, 1, places(0, 2, 0, 0), []int64{0, 3}},
		{small, 2, places(0, 2, 0, 0), []int64{2}},
		{small, 8, placesIn(small), []int64{0}},
		{wide, 8, places(0, 0, 0, 7), []int64{6}},
		{wide, 8, places(0, 0, 1, 7), []int64{7}},
		{wide, 0, places(0, 0, 0, 1, 0, 2, 0, 3, 0, 4, 0, 5, 0, 6, 0, 7), []int64{0, 2, 4, 6, 8, 10, 12, 14}},
		{wide, 0, places(0, 0, 1, 0, 0, 2, 1, 2, 0, 4, 1, 4, 0, 6, 1, 6), []int64{1, 5, 9, 13}},
		{wide, 1, places(1, 7, 1, 6, 1, 5, 1, 4, 1, 3, 1, 2, 1, 1, 1, 0), []int64{2, 6, 10, 14}},
		{wide, 2, places(0, 0, 0, 1, 0, 2, 0, 3, 0, 4, 0, 5, 0, 6, 0, 7), []int64{0, 6, 12}},
	} {
		same(t, fmt.Sprint("ladders for ", c.list, " with ", c.reach), reachedFromAll(t, c.r, c.reach, c.list), c.want)
	}
}

// P8: invalid inputs.
func TestPromise8InvalidInputs(t *testing.T) {
	r := slatersRoof()
	for what, bad := range badRoofs() {
		cells, code := impl.FewestLadders(bad, 0, nil)
		fails(t, "FewestLadders with "+what, impl.ErrInvalid, all(cells, code))
	}
	for _, c := range []struct {
		reach int64
		list  []impl.Place
		code  int64
	}{
		{-1, nil, impl.ErrRange},
		{9, nil, impl.ErrRange},
		{math.MinInt64, places(0, 0), impl.ErrRange},
		{math.MaxInt64, places(0, 0), impl.ErrRange},
		{0, places(0, 2), impl.ErrRange},
		{0, places(3, 0), impl.ErrRange},
		{0, places(0, 0, -1, 0), impl.ErrRange},
		{0, places(0, -1, 0, 0), impl.ErrRange},
		{-1, make([]impl.Place, 9), impl.ErrRange},
		{0, append(make([]impl.Place, 9), impl.Place{Course: 3}), impl.ErrRange},
		{0, make([]impl.Place, 9), impl.ErrLimit},
	} {
		cells, code := impl.FewestLadders(r, c.reach, c.list)
		fails(t, fmt.Sprint("FewestLadders of ", c.list, " with ", c.reach), c.code, all(cells, code))
	}
}

// checkOrders asserts what the functions tell of a list, of which all orders are gone through.
func checkOrders(t *testing.T, r impl.Roof, list []impl.Place) {
	t.Helper()
	orders := ordersOf(list)
	slices.SortFunc(orders, compareLists)
	upward := orders[slices.IndexFunc(orders, func(order []impl.Place) bool { return upwardIn(r, order) })]
	first, code := impl.FirstUpward(r, list)
	same(t, "code", code, int64(0))
	same(t, fmt.Sprint("first upward order of ", list), first, upward)
	order, least := bestOrder(list, compareLists, func(list []impl.Place) int64 { return liftedIn(r, list) })
	best, cost, code := impl.LeastLifted(r, list)
	same(t, fmt.Sprint("least lifted of ", list), all(cost, code), all(least, int64(0)))
	same(t, fmt.Sprint("order of ", list), best, order)
	for _, other := range orders {
		is, code := impl.IsUpward(r, other)
		same(t, "upward", all(is, code), all(upwardIn(r, other), int64(0)))
		cost, code := impl.LiftedFor(r, other)
		same(t, "lifted", all(cost, code), all(liftedIn(r, other), int64(0)))
	}
}

// nearTiles makes a list of different places, most of which lap over each other.
func nearTiles(r impl.Roof, n *numbers, most int) []impl.Place {
	list := []impl.Place{placesIn(r)[n.below(len(placesIn(r)))]}
	for range n.below(most) {
		last := list[n.below(len(list))]
		near := placesWhere(r, func(at impl.Place) bool { return areBeside(r, at, last) && !slices.Contains(list, at) })
		if len(near) > 0 {
			list = append(list, near[n.below(len(near))])
		}
	}
	return list
}

// P9: an upward order mends what lies below first, and no order lifts less than told, or is ahead of it and lifts as much.
func TestPromise9Orders(t *testing.T) {
	n := numbers(53)
	for i, r := range sampleRoofs() {
		checkOrders(t, r, nearTiles(r, &n, 5))
		checkOrders(t, r, someTiles(r, &n, 4))
		if i%128 == 100 {
			checkOrders(t, r, nearTiles(r, &n, 7))
		}
	}
}

// P9: lists of as many places as there can be: what lies below is first, and an order with the least cost is upward.
func TestPromise9LongOrders(t *testing.T) {
	n := numbers(54)
	for i, r := range sampleRoofs() {
		list := nearTiles(r, &n, 8)
		order, code := impl.FirstUpward(r, list)
		same(t, "code", code, int64(0))
		same(t, "upward", upwardIn(r, order), true)
		sorted, kept := slices.Clone(order), slices.Clone(list)
		slices.SortFunc(sorted, func(a, b impl.Place) int { return compareLists([]impl.Place{a}, []impl.Place{b}) })
		slices.SortFunc(kept, func(a, b impl.Place) int { return compareLists([]impl.Place{a}, []impl.Place{b}) })
		same(t, "all places of the list", sorted, kept)
		if i%8 > 0 {
			continue
		}
		// A tile that is lifted behind its own place costs more than ahead of it, so that the least orders are the upward ones.
		best, cost, code := impl.LeastLifted(r, list)
		same(t, "least lifted", all(best, cost, code), all(order, liftedIn(r, order), int64(0)))
	}
}

// P9: the edge cases: tiles that are missing, and that have been mended before, over one that is mended; half tiles; and several orders that are as good.
func TestPromise9EdgeCases(t *testing.T) {
	r := roof("ox.-", "-...", "s..-")
	for _, c := range []struct {
		list   []impl.Place
		upward bool
		cost   int64
		first  []impl.Place
		least  int64
	}{
		{nil, true, 0, nil, 0},
		{places(0, 0), true, 0, places(0, 0), 0},
		{places(1, 0), true, 1, places(1, 0), 1},
		{places(1, 1), true, 2, places(1, 1), 2},
		{places(1, 2), true, 1, places(1, 2), 1},
		{places(2, 0), true, 1, places(2, 0), 1},
		{places(0, 0, 1, 0), false, 3, places(1, 0, 0, 0), 1},
		{places(1, 0, 0, 0), true, 1, places(1, 0, 0, 0), 1},
		{places(0, 1, 1, 0), false, 2, places(1, 0, 0, 1), 1},
		{places(0, 0, 0, 1, 1, 0), false, 4, places(1, 0, 0, 0, 0, 1), 1},
		{places(0, 1, 0, 0, 1, 0), false, 4, places(1, 0, 0, 0, 0, 1), 1},
		{places(0, 0, 1, 1), true, 2, places(0, 0, 1, 1), 2},
		{places(1, 1, 0, 0), true, 2, places(0, 0, 1, 1), 2},
		{places(0, 0, 2, 0), true, 1, places(0, 0, 2, 0), 1},
		{places(2, 0, 0, 0), true, 1, places(0, 0, 2, 0), 1},
		{places(0, 0, 1, 0, 2, 0), false, 5, places(2, 0, 1, 0, 0, 0), 2},
		{places(2, 0, 1, 0, 0, 0), true, 2, places(2, 0, 1, 0, 0, 0), 2},
		{places(0, 2, 1, 2, 0, 0), false, 2, places(0, 0, 1, 2, 0, 2), 1},
		{places(0, 2, 0, 1, 0, 0), true, 0, places(0, 0, 0, 1, 0, 2), 0},
		{places(1, 2, 1, 1, 1, 0), true, 4, places(1, 0, 1, 1, 1, 2), 4},
		{places(0, 0, 0, 1, 0, 2, 1, 0, 1, 1, 1, 2, 2, 0, 2, 1), false, 16, places(1, 2, 2, 0, 2, 1, 1, 0, 0, 0, 1, 1, 0, 1, 0, 2), 7},
	} {
		is, code := impl.IsUpward(r, c.list)
		same(t, fmt.Sprint(c.list, " is upward"), all(is, code), all(c.upward, int64(0)))
		cost, code := impl.LiftedFor(r, c.list)
		same(t, fmt.Sprint("lifted for ", c.list), all(cost, code), all(c.cost, int64(0)))
		first, code := impl.FirstUpward(r, c.list)
		same(t, "code", code, int64(0))
		same(t, fmt.Sprint("first upward order of ", c.list), first, c.first)
		best, cost, code := impl.LeastLifted(r, c.list)
		same(t, fmt.Sprint("least lifted of ", c.list), all(cost, code), all(c.least, int64(0)))
		same(t, fmt.Sprint("order for it of ", c.list), best, c.first)
	}
}

// P9: a tile of each kind over one that is mended, ahead of its own place and behind it.
func TestPromise9KindsAbove(t *testing.T) {
	for kind := range uint8(4) {
		for shift := range uint8(2) {
			r := impl.Roof{Wide: 1, High: 2, Shift: shift}
			r.Tiles[0][0] = kind
			want := int64(1)
			if kind == impl.TiMissing {
				want = 0
			}
			for below := range uint8(4) {
				r.Tiles[1][0] = below
				cost, code := impl.LiftedFor(r, column(1, 0))
				same(t, "ahead of it", all(cost, code), all(want, int64(0)))
				cost, code = impl.LiftedFor(r, column(0, 1))
				same(t, "behind it", all(cost, code), all(int64(2), int64(0)))
				best, cost, code := impl.LeastLifted(r, column(0, 1))
				same(t, "least", all(best, cost, code), all(column(1, 0), want, int64(0)))
			}
		}
	}
}

// P9: invalid inputs.
func TestPromise9InvalidInputs(t *testing.T) {
	for what, bad := range badRoofs() {
		for name, got := range callsOfOrders(bad, work{}) {
			fails(t, name+" with "+what, impl.ErrInvalid, got)
		}
	}
	for _, c := range []struct {
		list []impl.Place
		code int64
	}{
		{places(0, 2), impl.ErrRange},
		{places(3, 0), impl.ErrRange},
		{places(0, 0, 0, 0, -1, 0), impl.ErrRange},
		{append(make([]impl.Place, 9), impl.Place{Tile: 127}), impl.ErrRange},
		{make([]impl.Place, 9), impl.ErrLimit},
		{make([]impl.Place, 8), impl.ErrState},
		{places(0, 0, 0, 0), impl.ErrState},
		{places(1, 0, 0, 0, 1, 1, 0, 0), impl.ErrState},
	} {
		for name, got := range callsOfOrders(slatersRoof(), work{list: c.list}) {
			fails(t, fmt.Sprint(name, " of ", c.list), c.code, got)
		}
	}
}
