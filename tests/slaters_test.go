package tests

import (
	"fmt"
	"math"
	"slices"
	"testing"

	"loop.example/g01376/impl"
)

func TestConstantsOfSlaters(t *testing.T) {
	same(t, "limits", [4]int{impl.MaxJobs, impl.MaxReach, impl.MaxCarry, impl.MaxShift}, [4]int{8, 8, 20, 1000})
}

// places makes places of pairs of a course and an index.
func places(pairs ...int8) []impl.Place {
	var list []impl.Place
	for i := 0; i < len(pairs); i += 2 {
		list = append(list, impl.Place{Course: pairs[i], Tile: pairs[i+1]})
	}
	return list
}

// column makes places of one index, by their courses.
func column(courses ...int8) []impl.Place {
	var list []impl.Place
	for _, course := range courses {
		list = append(list, impl.Place{Course: course})
	}
	return list
}

func TestReachFrom(t *testing.T) {
	for _, r := range sampleRoofs() {
		for cell := range int64(acrossOf(r)) {
			for reach := range int64(9) {
				list, code := impl.ReachFrom(r, cell, reach)
				same(t, "code", code, int64(0))
				same(t, "reached", list, placesWhere(r, func(at impl.Place) bool { return isNear(r, cell, reach, at) }))
			}
		}
	}
}

// TestReachOfOneCell has tiles one of whose two cells alone is within reach, at both edges and in shifted courses, and half tiles at the ladder.
func TestReachOfOneCell(t *testing.T) {
	low, high := roof("...-", "-..."), roof("-...", "...-")
	for _, c := range []struct {
		r           impl.Roof
		cell, reach int64
		want        []impl.Place
	}{
		{low, 0, 0, places(0, 0)},
		{low, 0, 1, places(0, 0, 1, 0)},
		{low, 0, 2, places(0, 0, 0, 1, 1, 0)},
		{low, 1, 0, places(0, 0, 1, 0)},
		{low, 3, 0, places(0, 1, 1, 1)},
		{low, 3, 1, places(0, 1, 0, 2, 1, 0, 1, 1)},
		{low, 5, 0, places(0, 2, 1, 2)},
		{low, 6, 0, places(1, 2)},
		{low, 6, 1, places(0, 2, 1, 2)},
		{low, 6, 2, places(0, 2, 1, 1, 1, 2)},
		{low, 6, 8, placesIn(low)},
		{high, 0, 0, places(1, 0)},
		{high, 0, 1, places(0, 0, 1, 0)},
		{high, 0, 2, places(0, 0, 1, 0, 1, 1)},
		{high, 6, 0, places(0, 2)},
		{high, 6, 1, places(0, 2, 1, 2)},
		{high, 6, 2, places(0, 1, 0, 2, 1, 2)},
		{impl.Roof{Wide: 8, High: 2}, 0, 8, places(0, 0, 0, 1, 0, 2, 0, 3, 0, 4, 1, 0, 1, 1, 1, 2, 1, 3)},
		{impl.Roof{Wide: 8, High: 2}, 8, 8, placesIn(impl.Roof{Wide: 8, High: 2})},
		{impl.Roof{Wide: 8, High: 2}, 16, 8, places(0, 4, 0, 5, 0, 6, 0, 7, 1, 3, 1, 4, 1, 5, 1, 6, 1, 7)},
		{impl.Roof{Wide: 1, High: 1}, 2, 0, nil},
		{impl.Roof{Wide: 1, High: 1}, 2, 1, places(0, 0)},
		{impl.Roof{Wide: 1, High: 1, Shift: 1}, 0, 0, nil},
		{impl.Roof{Wide: 1, High: 1, Shift: 1}, 0, 1, places(0, 0)},
	} {
		list, code := impl.ReachFrom(c.r, c.cell, c.reach)
		same(t, "code", code, int64(0))
		same(t, fmt.Sprint("reached from ", c.cell, " with ", c.reach), list, c.want)
		for _, at := range placesIn(c.r) {
			can, code := impl.CanReach(c.r, []int64{c.cell}, c.reach, []impl.Place{at})
			same(t, fmt.Sprint(at, " from ", c.cell, " with ", c.reach), all(can, code), all(slices.Contains(c.want, at), int64(0)))
		}
	}
}

func TestCanReachAndLadderFor(t *testing.T) {
	n := numbers(41)
	for i, r := range sampleRoofs() {
		for range 20 {
			cells, list, reach := someCells(r, &n, 8), someTiles(r, &n, 8), int64(n.below(9))
			if i%2 == 0 {
				reach = int64(n.below(3))
			}
			want := laddersIn(r, cells, reach, list)
			isOut := slices.Contains(want, -1)
			can, code := impl.CanReach(r, cells, reach, list)
			same(t, "can be reached", all(can, code), all(!isOut, int64(0)))
			indices, code := impl.LadderFor(r, cells, reach, list)
			if isOut {
				fails(t, "no ladder for one", impl.ErrNotFound, all(indices, code))
				continue
			}
			same(t, "code", code, int64(0))
			same(t, "ladders", indices, want)
		}
	}
}

// TestLaddersForFew has no cells and no places, cells and places that come twice, and places that are reached from several ladders.
func TestLaddersForFew(t *testing.T) {
	r := roof("...-", "-...")
	for _, c := range []struct {
		cells []int64
		reach int64
		list  []impl.Place
		want  []int64
		found bool
	}{
		{nil, 0, nil, nil, true},
		{nil, 8, places(0, 0), nil, false},
		{[]int64{0}, 0, nil, nil, true},
		{[]int64{0, 0}, 0, places(0, 0), []int64{0}, true},
		{[]int64{6, 1, 1, 0}, 0, places(0, 0, 1, 0, 0, 0), []int64{1, 1, 1}, true},
		{[]int64{6, 0, 1}, 0, places(1, 2, 0, 0, 1, 0), []int64{0, 1, 2}, true},
		{[]int64{0, 6}, 2, places(0, 1, 0, 2, 1, 1), []int64{0, 1, 1}, true},
		{[]int64{0, 6}, 1, places(0, 0, 0, 1, 0, 2), nil, false},
		{[]int64{3, 3, 3, 3, 3, 3, 3, 3}, 8, places(0, 0, 0, 1, 0, 2, 1, 0, 1, 1, 1, 2, 0, 0, 0, 0), make([]int64, 8), true},
	} {
		can, code := impl.CanReach(r, c.cells, c.reach, c.list)
		same(t, "can be reached", all(can, code), all(c.found, int64(0)))
		indices, code := impl.LadderFor(r, c.cells, c.reach, c.list)
		if !c.found {
			fails(t, "no ladder for one", impl.ErrNotFound, all(indices, code))
			continue
		}
		same(t, "code", code, int64(0))
		same(t, fmt.Sprint("ladders at ", c.cells, " for ", c.list), indices, c.want)
	}
}

func TestWalkFor(t *testing.T) {
	n := numbers(42)
	for _, r := range sampleRoofs() {
		for range 10 {
			cells, start := someCells(r, &n, 8), int64(n.below(acrossOf(r)))
			walk, code := impl.WalkFor(r, cells, start)
			same(t, "walk", all(walk, code), all(walkIn(cells, start), int64(0)))
		}
	}
	r := impl.Roof{Wide: 8, High: 1}
	for _, c := range []struct {
		cells []int64
		start int64
		want  int64
	}{
		{nil, 16, 0},
		{[]int64{16}, 0, 16},
		{[]int64{0}, 16, 16},
		{[]int64{5, 5, 5}, 5, 0},
		{[]int64{0, 16, 0, 16, 0, 16, 0, 16}, 16, 128},
	} {
		walk, code := impl.WalkFor(r, c.cells, c.start)
		same(t, fmt.Sprint("walk to ", c.cells), all(walk, code), all(c.want, int64(0)))
	}
}

func TestLeastWalk(t *testing.T) {
	n := numbers(43)
	for i, r := range sampleRoofs() {
		cells, start := someCells(r, &n, 6), int64(n.below(acrossOf(r)))
		if i%100 == 0 {
			cells = append(cells, someCells(r, &n, 8-len(cells))...)
		}
		order, walk := bestOrder(cells, slices.Compare[[]int64], func(list []int64) int64 { return walkIn(list, start) })
		got, least, code := impl.LeastWalk(r, cells, start)
		same(t, "least walk", all(least, code), all(walk, int64(0)))
		same(t, "its order", got, order)
	}
}

// TestFirstOfSeveralWalks has several orders with the least walk, cells that come twice, and as many cells as there can be.
func TestFirstOfSeveralWalks(t *testing.T) {
	r := impl.Roof{Wide: 8, High: 1}
	for _, c := range []struct {
		cells []int64
		start int64
		order []int64
		walk  int64
	}{
		{nil, 3, nil, 0},
		{[]int64{7}, 7, []int64{7}, 0},
		{[]int64{5, 1}, 3, []int64{1, 5}, 6},
		{[]int64{2, 2, 2}, 2, []int64{2, 2, 2}, 0},
		{[]int64{6, 0, 4}, 4, []int64{4, 6, 0}, 8},
		{[]int64{6, 1, 0}, 2, []int64{0, 1, 6}, 8},
		{[]int64{6, 4, 0}, 3, []int64{0, 4, 6}, 9},
		{[]int64{5, 3, 5}, 4, []int64{3, 5, 5}, 3},
		{[]int64{9, 3, 11, 5, 3}, 8, []int64{9, 11, 5, 3, 3}, 11},
		{[]int64{0, 16, 2, 14, 4, 12, 6, 10}, 9, []int64{10, 12, 14, 16, 6, 4, 2, 0}, 23},
		{[]int64{0, 16, 2, 14, 4, 12, 6, 10}, 8, []int64{0, 2, 4, 6, 10, 12, 14, 16}, 24},
	} {
		order, walk, code := impl.LeastWalk(r, c.cells, c.start)
		same(t, "least walk", all(walk, code), all(c.walk, int64(0)))
		same(t, fmt.Sprint("walk to ", c.cells, " from ", c.start), order, c.order)
	}
}

func TestClimbTo(t *testing.T) {
	for _, r := range sampleRoofs() {
		for _, at := range placesIn(r) {
			rungs, code := impl.ClimbTo(r, at)
			same(t, "rungs", all(rungs, code), all(int64(r.High)-int64(at.Course), int64(0)))
		}
	}
}

func TestClimbsForAndLeastClimb(t *testing.T) {
	n := numbers(44)
	for _, r := range sampleRoofs() {
		list := somePlaces(r, &n)
		list = list[:min(len(list), 6)]
		for _, carry := range []int64{1, 2, 3, 4, int64(max(len(list), 1)), 20} {
			rungs, code := impl.ClimbsFor(r, list, carry)
			same(t, "rungs", all(rungs, code), all(climbsIn(r, list, carry), int64(0)))
			_, want := bestOrder(list, compareLists, func(list []impl.Place) int64 { return climbsIn(r, list, carry) })
			least, code := impl.LeastClimb(r, list, carry)
			same(t, "fewest rungs", all(least, code), all(want, int64(0)))
		}
	}
}

// TestClimbs has no places, places that come twice, as many as there can be, and those that are left over for the last climb.
func TestClimbs(t *testing.T) {
	r := impl.Roof{Wide: 1, High: 8}
	for _, c := range []struct {
		list         []impl.Place
		carry        int64
		rungs, least int64
	}{
		{nil, 1, 0, 0},
		{nil, 20, 0, 0},
		{column(0), 1, 16, 16},
		{column(7), 20, 2, 2},
		{column(0, 7, 0, 7), 1, 36, 36},
		{column(0, 7, 0, 7), 2, 32, 18},
		{column(0, 7, 0, 7), 3, 18, 18},
		{column(7, 7, 7, 0), 3, 18, 18},
		{column(0, 7, 0, 7), 4, 16, 16},
		{column(0, 7, 0, 7), 5, 16, 16},
		{column(7, 1, 0), 2, 30, 18},
		{column(0, 1, 2, 3, 4, 5, 6, 7), 1, 72, 72},
		{column(0, 1, 2, 3, 4, 5, 6, 7), 3, 16 + 10 + 4, 16 + 10 + 4},
		{column(7, 6, 5, 4, 3, 2, 1, 0), 3, 6 + 12 + 16, 16 + 10 + 4},
		{column(7, 0, 6, 1, 5, 2, 4, 3), 7, 16 + 10, 16 + 2},
		{column(0, 1, 2, 3, 4, 5, 6, 7), 8, 16, 16},
		{column(7, 6, 5, 4, 3, 2, 1, 0), 20, 16, 16},
	} {
		rungs, code := impl.ClimbsFor(r, c.list, c.carry)
		same(t, fmt.Sprint("rungs for ", c.list, " with ", c.carry), all(rungs, code), all(c.rungs, int64(0)))
		rungs, code = impl.LeastClimb(r, c.list, c.carry)
		same(t, fmt.Sprint("fewest rungs for ", c.list, " with ", c.carry), all(rungs, code), all(c.least, int64(0)))
	}
}

func TestPushBackAndTilesNeeded(t *testing.T) {
	n := numbers(45)
	for _, r := range sampleRoofs() {
		for range 10 {
			cells, reach := someCells(r, &n, 8), int64(n.below(9))
			isReached := func(at impl.Place) bool { return laddersIn(r, cells, reach, []impl.Place{at})[0] >= 0 }
			want := r
			slipped := placesWhere(r, func(at impl.Place) bool { return kindIn(r, at) == impl.TiSlipped && isReached(at) })
			for _, at := range slipped {
				want = mendedAt(want, at)
			}
			pushed, list, code := impl.PushBack(r, cells, reach)
			same(t, "pushed back", all(pushed, code), all(want, int64(0)))
			same(t, "places", list, slipped)
			wrong := placesWhere(r, func(at impl.Place) bool { return kindIn(r, at)%2 == 1 && isReached(at) })
			many, code := impl.TilesNeeded(r, cells, reach)
			same(t, "needed", all(many, code), all(int64(len(wrong)), int64(0)))
		}
	}
}

// TestPushBackOfFew has no ladders, ladders at one cell, tiles of which one cell alone is within reach, and tiles of each kind.
func TestPushBackOfFew(t *testing.T) {
	r := roof("sxo-", "-.ss", "oss-")
	for _, c := range []struct {
		cells  []int64
		reach  int64
		rows   []string
		pushed []impl.Place
		needed int64
	}{
		{nil, 8, []string{"sxo-", "-.ss", "oss-"}, nil, 0},
		{[]int64{0}, 0, []string{".xo-", "-.ss", "oss-"}, places(0, 0), 1},
		{[]int64{0, 0, 0}, 0, []string{".xo-", "-.ss", "oss-"}, places(0, 0), 1},
		{[]int64{6}, 0, []string{"sxo-", "-.s.", "oss-"}, places(1, 2), 0},
		{[]int64{6}, 1, []string{"sxo-", "-.s.", "os.-"}, places(1, 2, 2, 2), 1},
		{[]int64{6}, 2, []string{"sxo-", "-...", "os.-"}, places(1, 1, 1, 2, 2, 2), 1},
		{[]int64{3}, 0, []string{"sxo-", "-..s", "o.s-"}, places(1, 1, 2, 1), 1},
		{[]int64{6, 0}, 0, []string{".xo-", "-.s.", "oss-"}, places(0, 0, 1, 2), 1},
		{[]int64{3}, 8, []string{".xo-", "-...", "o..-"}, places(0, 0, 1, 1, 1, 2, 2, 1, 2, 2), 3},
	} {
		pushed, list, code := impl.PushBack(r, c.cells, c.reach)
		same(t, fmt.Sprint("pushed back from ", c.cells), all(pushed, code), all(roof(c.rows...), int64(0)))
		same(t, fmt.Sprint("places from ", c.cells), list, c.pushed)
		needed, code := impl.TilesNeeded(r, c.cells, c.reach)
		same(t, fmt.Sprint("needed from ", c.cells), all(needed, code), all(c.needed, int64(0)))
	}
}

func TestJobTime(t *testing.T) {
	n := numbers(46)
	for _, r := range sampleRoofs() {
		list := someTiles(r, &n, 8)
		for _, carry := range []int64{1, 2, int64(max(len(list), 1)), 20} {
			for _, each := range []int64{0, 1, 7, 999, 1000} {
				want := climbsIn(r, list, carry) + each*int64(len(list)) + liftedIn(r, list)
				time, code := impl.JobTime(r, list, carry, each)
				same(t, "time", all(time, code), all(want, int64(0)))
			}
		}
	}
	r := impl.Roof{Wide: 1, High: 8}
	time, code := impl.JobTime(r, column(0, 1, 2, 3, 4, 5, 6, 7), 1, 1000)
	same(t, "from the ridge down", all(time, code), all(int64(72+8000+14), int64(0)))
	time, code = impl.JobTime(r, column(7, 6, 5, 4, 3, 2, 1, 0), 20, 0)
	same(t, "from the eaves up", all(time, code), all(int64(16+7), int64(0)))
	time, code = impl.JobTime(r, nil, 1, 1000)
	same(t, "nothing", all(time, code), all(int64(0), int64(0)))
}

func TestDaysFor(t *testing.T) {
	n := numbers(47)
	for range 5000 {
		times, shift := someTimes(&n)
		var days []int64
		for i := range times {
			day := int64(0)
			for loadIn(times[:i+1], append(slices.Clone(days), day), day) > shift {
				day++
			}
			days = append(days, day)
		}
		got, many, code := impl.DaysFor(times, shift)
		same(t, "days", all(many, code), all(daysIn(days), int64(0)))
		same(t, fmt.Sprint("days for ", times, " in ", shift), got, days)
	}
}

// someTimes makes a shift and at most 8 times, none of them greater, with room behind them.
func someTimes(n *numbers) ([]int64, int64) {
	shift := []int64{1, 2, 5, 10, 20, 999, 1000}[n.below(7)]
	times := make([]int64, 0, 30)
	for range n.below(9) {
		times = append(times, int64(n.below(int(shift)+1)))
	}
	return times, shift
}

func TestFewestDays(t *testing.T) {
	n := numbers(48)
	for i := range 1000 {
		times, shift := someTimes(&n)
		if i%10 > 0 {
			times = times[:min(len(times), 6)]
		}
		plans := plansIn(times, shift)
		// The plans are ordered, and the first one of the least ones is taken.
		want := slices.MinFunc(plans, func(a, b []int64) int { return int(daysIn(a) - daysIn(b)) })
		days, many, code := impl.FewestDays(times, shift)
		same(t, "days", all(many, code), all(daysIn(want), int64(0)))
		same(t, fmt.Sprint("days for ", times, " in ", shift), days, want)
	}
}

// TestDays has no jobs, times of 0, times that fill a day exactly, as many jobs as there can be, and several lists of as few days.
func TestDays(t *testing.T) {
	for _, c := range []struct {
		times         []int64
		shift         int64
		first, fewest []int64
	}{
		{nil, 1, nil, nil},
		{[]int64{0}, 1, []int64{0}, []int64{0}},
		{[]int64{0, 0, 0, 0, 0, 0, 0, 0}, 1, make([]int64, 8), make([]int64, 8)},
		{[]int64{1000}, 1000, []int64{0}, []int64{0}},
		{[]int64{1000, 0, 1000, 0}, 1000, []int64{0, 0, 1, 0}, []int64{0, 0, 1, 0}},
		{[]int64{0, 6, 6, 0}, 6, []int64{0, 0, 1, 0}, []int64{0, 0, 1, 0}},
		{[]int64{1, 2, 3}, 6, []int64{0, 0, 0}, []int64{0, 0, 0}},
		{[]int64{1, 2, 4}, 6, []int64{0, 0, 1}, []int64{0, 0, 1}},
		{[]int64{3, 4, 3}, 6, []int64{0, 1, 0}, []int64{0, 1, 0}},
		{[]int64{3, 3, 7, 7}, 10, []int64{0, 0, 1, 2}, []int64{0, 1, 0, 1}},
		{[]int64{7, 3, 7, 3}, 10, []int64{0, 0, 1, 1}, []int64{0, 0, 1, 1}},
		{[]int64{2, 2, 2, 6, 4, 4}, 10, []int64{0, 0, 0, 1, 0, 1}, []int64{0, 0, 0, 1, 0, 1}},
		{[]int64{2, 3, 4, 5, 6}, 10, []int64{0, 0, 0, 1, 2}, []int64{0, 0, 1, 0, 1}},
		{[]int64{4, 4, 6, 6, 5, 5}, 10, []int64{0, 0, 1, 2, 3, 3}, []int64{0, 1, 0, 1, 2, 2}},
		{[]int64{6, 6, 6, 6, 6, 6, 6, 6}, 6, []int64{0, 1, 2, 3, 4, 5, 6, 7}, []int64{0, 1, 2, 3, 4, 5, 6, 7}},
		{[]int64{2, 2, 3, 3, 8, 8, 7, 7}, 10, []int64{0, 0, 0, 0, 1, 2, 3, 4}, []int64{0, 1, 2, 3, 0, 1, 2, 3}},
		{[]int64{1, 1, 1, 1}, 1, []int64{0, 1, 2, 3}, []int64{0, 1, 2, 3}},
		{[]int64{1, 1, 1, 1}, 2, []int64{0, 0, 1, 1}, []int64{0, 0, 1, 1}},
	} {
		days, many, code := impl.DaysFor(c.times, c.shift)
		same(t, fmt.Sprint("days for ", c.times, " in ", c.shift), all(many, code), all(daysIn(c.first), int64(0)))
		same(t, fmt.Sprint("days for ", c.times, " in ", c.shift), days, c.first)
		days, many, code = impl.FewestDays(c.times, c.shift)
		same(t, fmt.Sprint("fewest days for ", c.times, " in ", c.shift), all(many, code), all(daysIn(c.fewest), int64(0)))
		same(t, fmt.Sprint("fewest days for ", c.times, " in ", c.shift), days, c.fewest)
	}
}

// TestCodesOfDays has shifts and times that are none, too many jobs, and times that are greater than the shift, and their order.
func TestCodesOfDays(t *testing.T) {
	long := make([]int64, 9)
	for _, c := range []struct {
		times []int64
		shift int64
		code  int64
	}{
		{nil, 0, impl.ErrRange},
		{nil, -1, impl.ErrRange},
		{nil, 1001, impl.ErrRange},
		{nil, math.MinInt64, impl.ErrRange},
		{nil, math.MaxInt64, impl.ErrRange},
		{nil, 1<<32 + 5, impl.ErrRange},
		{[]int64{-1}, 5, impl.ErrRange},
		{[]int64{1001}, 1000, impl.ErrRange},
		{[]int64{1, 2, 1001}, 1, impl.ErrRange},
		{[]int64{math.MinInt64, 1}, 1000, impl.ErrRange},
		{[]int64{1, math.MaxInt64}, 1000, impl.ErrRange},
		{append(long, -1), 5, impl.ErrRange},
		{append(long, 7, 1001), 5, impl.ErrRange},
		{long, 0, impl.ErrRange},
		{long, 5, impl.ErrLimit},
		{append(long, 6), 5, impl.ErrLimit},
		{append([]int64{6}, long...), 5, impl.ErrLimit},
		{slices.Repeat([]int64{6}, 9), 5, impl.ErrLimit},
		{slices.Repeat([]int64{6}, 8), 5, impl.ErrNotFound},
		{[]int64{6}, 5, impl.ErrNotFound},
		{[]int64{1000}, 999, impl.ErrNotFound},
		{[]int64{0, 1, 2}, 1, impl.ErrNotFound},
		{[]int64{2, 1, 0}, 1, impl.ErrNotFound},
	} {
		for name, got := range callsOfDays(c.times, c.shift) {
			fails(t, fmt.Sprint(name, " for ", c.times, " in ", c.shift), c.code, got)
		}
	}
}
