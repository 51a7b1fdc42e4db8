package tests

import (
	"fmt"
	"math"
	"slices"
	"strings"
	"testing"

	"loop.example/g01376/impl"
)

func TestConstantsOfYears(t *testing.T) {
	same(t, "limits", [3]int{impl.MaxAge, impl.MaxYears, impl.MaxWord}, [3]int{100, 200, 12})
}

func TestValidAges(t *testing.T) {
	eachAges(func(r impl.Roof, a impl.Ages, n *numbers) {
		same(t, fmt.Sprint("valid: ", a), impl.ValidAges(r, a), true)
	})
	for _, r := range yearRoofs() {
		for what, bad := range badAges(r) {
			same(t, fmt.Sprint("valid with ", what, " on ", r), impl.ValidAges(r, bad), false)
		}
	}
	for what, bad := range badRoofs() {
		same(t, "ages with "+what, impl.ValidAges(bad, impl.Ages{}), false)
	}
	for age := range 256 {
		last := impl.Ages{7: {7: uint8(age)}}
		same(t, fmt.Sprint("an age of ", age), impl.ValidAges(impl.Roof{Wide: 8, High: 8}, last), age <= 100)
		same(t, fmt.Sprint("of one tile, ", age), impl.ValidAges(roof("-."), impl.Ages{{uint8(age)}}), age <= 100)
		same(t, fmt.Sprint("of no tile, ", age), impl.ValidAges(impl.Roof{Wide: 7, High: 8}, last), age == 0)
	}
}

func TestLater(t *testing.T) {
	eachAges(func(r impl.Roof, a impl.Ages, n *numbers) {
		_, oldest := oldestIn(r, a)
		for _, years := range []int64{0, 1, int64(n.below(101)), 100 - oldest, 101 - oldest, 99, 100} {
			later, code := impl.Later(r, a, years)
			name := fmt.Sprint(years, " years behind ", a)
			switch {
			case years > 100:
				fails(t, name, impl.ErrRange, all(later, code))
			case oldest+years > 100:
				fails(t, name, impl.ErrLimit, all(later, code))
			default:
				want := a
				for _, at := range placesIn(r) {
					want[at.Course][at.Tile] += uint8(years)
				}
				same(t, name, all(later, code), all(want, int64(0)))
			}
		}
	})
}

// TestLaterOfFew has ages that get just as old as can be, and one year older.
func TestLaterOfFew(t *testing.T) {
	r := roof("..-", "-..")
	for _, c := range []struct {
		a     impl.Ages
		years int64
		want  impl.Ages
		code  int64
	}{
		{impl.Ages{}, 0, impl.Ages{}, impl.OK},
		{impl.Ages{}, 100, impl.Ages{{100, 100}, {100, 100}}, impl.OK},
		{impl.Ages{}, 101, impl.Ages{}, impl.ErrRange},
		{impl.Ages{{100, 100}, {100, 100}}, 0, impl.Ages{{100, 100}, {100, 100}}, impl.OK},
		{impl.Ages{{0, 0}, {0, 100}}, 1, impl.Ages{}, impl.ErrLimit},
		{impl.Ages{{1}}, 99, impl.Ages{{100, 99}, {99, 99}}, impl.OK},
		{impl.Ages{{1}}, 100, impl.Ages{}, impl.ErrLimit},
		{impl.Ages{{100}}, 100, impl.Ages{}, impl.ErrLimit},
		{impl.Ages{{100}}, 101, impl.Ages{}, impl.ErrRange},
		{impl.Ages{{100}}, -1, impl.Ages{}, impl.ErrRange},
		{impl.Ages{{101}}, -1, impl.Ages{}, impl.ErrInvalid},
	} {
		later, code := impl.Later(r, c.a, c.years)
		same(t, fmt.Sprint(c.years, " years behind ", c.a), all(later, code), all(c.want, c.code))
	}
}

func TestOldestOf(t *testing.T) {
	eachAges(func(r impl.Roof, a impl.Ages, n *numbers) {
		at, age, code := impl.OldestOf(r, a)
		want, oldest := oldestIn(r, a)
		same(t, fmt.Sprint("oldest of ", a), all(at, age, code), all(want, oldest, int64(0)))
	})
	for _, c := range []struct {
		a    impl.Ages
		at   impl.Place
		want int64
	}{
		{impl.Ages{}, impl.Place{}, 0},
		{impl.Ages{{0, 1}, {1, 1}}, impl.Place{Tile: 1}, 1},
		{impl.Ages{{0, 0}, {9, 9}}, impl.Place{Course: 1}, 9},
		{impl.Ages{{9, 0}, {0, 9}}, impl.Place{}, 9},
		{impl.Ages{{99, 99}, {99, 100}}, impl.Place{Course: 1, Tile: 1}, 100},
	} {
		at, age, code := impl.OldestOf(roof("xo-", "-s."), c.a)
		same(t, fmt.Sprint("oldest of ", c.a), all(at, age, code), all(c.at, c.want, int64(0)))
	}
}

// olderIn returns the places of the tiles that are older than life some years later.
func olderIn(r impl.Roof, a impl.Ages, life, years int64) []impl.Place {
	return placesWhere(r, func(at impl.Place) bool { return int64(a[at.Course][at.Tile])+years > life })
}

// checkOld asserts which tiles are too old, now and some years later.
func checkOld(t *testing.T, r impl.Roof, a impl.Ages, life, years int64) {
	t.Helper()
	old, code := impl.TooOld(r, a, life)
	same(t, "code", code, int64(0))
	same(t, fmt.Sprint("too old with the life ", life, " of ", a), old, olderIn(r, a, life, 0))
	want := r
	for _, at := range olderIn(r, a, life, years) {
		want.Tiles[at.Course][at.Tile] = impl.TiMissing
	}
	broken, code := impl.BreakRoof(r, a, life, years)
	same(t, fmt.Sprint("broken ", years, " years later with the life ", life, " of ", r, a), all(broken, code), all(want, int64(0)))
	first, code := impl.FirstBreak(r, a, life)
	same(t, "code", code, int64(0))
	if len(olderIn(r, a, life, first)) == 0 || first > 0 && len(olderIn(r, a, life, first-1)) > 0 || first < 0 {
		t.Errorf("first break of %v with the life %d: got %d", a, life, first)
	}
}

func TestOldTiles(t *testing.T) {
	eachAges(func(r impl.Roof, a impl.Ages, n *numbers) {
		_, oldest := oldestIn(r, a)
		for _, life := range []int64{1, 2, 100, oldest - 1, oldest, oldest + 1, int64(n.below(100) + 1)} {
			if 1 <= life && life <= 100 {
				for _, years := range []int64{0, 1, 200, life, max(life-oldest, 0), int64(n.below(201))} {
					checkOld(t, r, a, life, years)
				}
			}
		}
	})
}

// TestOldTilesOfFew has tiles that are just as old as life, one year older, and ages that nothing is older than, nor younger.
func TestOldTilesOfFew(t *testing.T) {
	r := roof("x.-", "-so")
	for _, c := range []struct {
		a           impl.Ages
		life, years int64
		old         []impl.Place
		broken      string
		first       int64
	}{
		{impl.Ages{}, 1, 0, nil, "x.-\n-so\n", 2},
		{impl.Ages{}, 1, 1, nil, "x.-\n-so\n", 2},
		{impl.Ages{}, 1, 2, nil, "oo-\n-oo\n", 2},
		{impl.Ages{}, 100, 100, nil, "x.-\n-so\n", 101},
		{impl.Ages{}, 100, 101, nil, "oo-\n-oo\n", 101},
		{impl.Ages{}, 100, 200, nil, "oo-\n-oo\n", 101},
		{impl.Ages{{100, 100}, {100, 100}}, 100, 0, nil, "x.-\n-so\n", 1},
		{impl.Ages{{100, 100}, {100, 99}}, 100, 1, nil, "oo-\n-oo\n", 1},
		{impl.Ages{{100, 0}, {99, 0}}, 100, 1, nil, "o.-\n-so\n", 1},
		{impl.Ages{{100, 0}, {99, 0}}, 99, 0, []impl.Place{{}}, "o.-\n-so\n", 0},
		{impl.Ages{{2, 1}, {1, 2}}, 1, 0, []impl.Place{{}, {Course: 1, Tile: 1}}, "o.-\n-so\n", 0},
		{impl.Ages{{2, 1}, {1, 2}}, 2, 0, nil, "x.-\n-so\n", 1},
		{impl.Ages{{2, 1}, {1, 2}}, 1, 200, []impl.Place{{}, {Course: 1, Tile: 1}}, "oo-\n-oo\n", 0},
		{impl.Ages{{0, 7}, {3, 0}}, 8, 1, nil, "x.-\n-so\n", 2},
		{impl.Ages{{0, 7}, {3, 0}}, 8, 2, nil, "xo-\n-so\n", 2},
		{impl.Ages{{0, 7}, {3, 0}}, 8, 6, nil, "xo-\n-oo\n", 2},
		{impl.Ages{{50, 49}, {48, 47}}, 1, 0, []impl.Place{{}, {Tile: 1}, {Course: 1}, {Course: 1, Tile: 1}}, "oo-\n-oo\n", 0},
	} {
		checkOld(t, r, c.a, c.life, c.years)
		name := fmt.Sprint(" with the life ", c.life, ", ", c.years, " years behind ", c.a)
		old, code := impl.TooOld(r, c.a, c.life)
		same(t, "code", code, int64(0))
		same(t, "too old"+name, old, c.old)
		broken, code := impl.BreakRoof(r, c.a, c.life, c.years)
		same(t, "broken"+name, all(impl.RoofText(broken), code), all(c.broken, int64(0)))
		first, code := impl.FirstBreak(r, c.a, c.life)
		same(t, "first break"+name, all(first, code), all(c.first, int64(0)))
	}
}

// checkVisits asserts the visits, and how many tiles are replaced at each one.
func checkVisits(t *testing.T, r impl.Roof, a impl.Ages, life, years int64) {
	t.Helper()
	name := fmt.Sprint(" with the life ", life, " for ", years, " years of ", r, a)
	visits, code := impl.VisitsFor(r, a, life, years)
	counts, also := impl.ReplacedAt(r, a, life, years)
	if _, oldest := oldestIn(r, a); oldest > life {
		fails(t, "visits"+name, impl.ErrNotFound, all(visits, code))
		fails(t, "replaced"+name, impl.ErrNotFound, all(counts, also))
		return
	}
	want := visitsIn(r, a, life, years)
	same(t, "codes", all(code, also), all(int64(0), int64(0)))
	same(t, "visits"+name, visits, want)
	same(t, "replaced"+name, counts, replacedIn(r, a, life, years, want))
}

func TestVisits(t *testing.T) {
	eachAges(func(r impl.Roof, a impl.Ages, n *numbers) {
		_, oldest := oldestIn(r, a)
		lives := []int64{100, oldest, oldest + 1, int64(n.below(100) + 1), int64(n.below(20) + 1), max(oldest-1, 1)}
		for _, life := range lives {
			if life < 1 || life > 100 {
				continue
			}
			for _, years := range []int64{0, 200, max(life-oldest, 0), life, min(2*life, 200), int64(n.below(201))} {
				checkVisits(t, r, a, life, years)
			}
		}
	})
}

// TestVisitsOfMany has a life of 1, so that there are as many visits as can be.
func TestVisitsOfMany(t *testing.T) {
	for _, r := range []impl.Roof{roof(".-"), roof("-.o", "xs-"), {Wide: 8, High: 8}} {
		for _, age := range []uint8{0, 1, 2} {
			for _, years := range []int64{0, 1, 2, 3, 199, 200} {
				checkVisits(t, r, evenAges(r, age), 1, years)
			}
		}
		visits, code := impl.VisitsFor(r, evenAges(r, 1), 1, 200)
		same(t, "all visits", all(len(visits), visits[0], visits[199], code), all(200, int64(0), int64(199), int64(0)))
		visits, code = impl.VisitsFor(r, impl.Ages{}, 1, 200)
		same(t, "all but one", all(len(visits), visits[0], visits[198], code), all(199, int64(1), int64(199), int64(0)))
	}
}

// TestVisitsOfFew has no visits, one in the year 0, one in the year years - 1, and tiles that are old at a visit, and young enough for the next one.
func TestVisitsOfFew(t *testing.T) {
	r := roof("..-")
	for _, c := range []struct {
		a              impl.Ages
		life, years    int64
		visits, counts []int64
	}{
		{impl.Ages{{3, 7}}, 10, 0, nil, nil},
		{impl.Ages{{3, 7}}, 10, 3, nil, nil},
		{impl.Ages{{3, 7}}, 10, 4, []int64{3}, []int64{1}},
		{impl.Ages{{3, 7}}, 10, 5, []int64{3}, []int64{1}},
		{impl.Ages{{3, 7}}, 10, 7, []int64{3}, []int64{1}},
		{impl.Ages{{3, 7}}, 10, 8, []int64{3}, []int64{2}},
		{impl.Ages{{3, 7}}, 10, 13, []int64{3}, []int64{2}},
		{impl.Ages{{3, 7}}, 10, 14, []int64{3, 13}, []int64{2, 2}},
		{impl.Ages{{3, 7}}, 10, 30, []int64{3, 13, 23}, []int64{2, 2, 2}},
		{impl.Ages{{10, 0}}, 10, 0, nil, nil},
		{impl.Ages{{10, 0}}, 10, 1, []int64{0}, []int64{1}},
		{impl.Ages{{10, 0}}, 10, 10, []int64{0}, []int64{1}},
		// At the visit 0 the second tile is 0 years old, and 10 years old at the next one.
		{impl.Ages{{10, 0}}, 10, 11, []int64{0, 10}, []int64{1, 2}},
		{impl.Ages{{10, 1}}, 10, 11, []int64{0, 10}, []int64{2, 2}},
		{impl.Ages{{10, 10}}, 10, 11, []int64{0, 10}, []int64{2, 2}},
		{impl.Ages{{9, 0}}, 10, 12, []int64{1, 11}, []int64{2, 2}},
		{impl.Ages{{9, 5}}, 10, 5, []int64{1}, []int64{1}},
		{impl.Ages{{9, 5}}, 10, 6, []int64{1}, []int64{2}},
		{impl.Ages{{0, 100}}, 100, 100, []int64{0}, []int64{1}},
		{impl.Ages{{0, 100}}, 100, 101, []int64{0, 100}, []int64{1, 2}},
		{impl.Ages{{0, 100}}, 100, 200, []int64{0, 100}, []int64{1, 2}},
		{impl.Ages{}, 100, 100, nil, nil},
		{impl.Ages{}, 100, 101, []int64{100}, []int64{2}},
		{impl.Ages{}, 100, 200, []int64{100}, []int64{2}},
		{impl.Ages{{0, 99}}, 100, 200, []int64{1, 101}, []int64{2, 2}},
		{impl.Ages{{1, 1}}, 1, 0, nil, nil},
		{impl.Ages{{1, 0}}, 1, 1, []int64{0}, []int64{1}},
		{impl.Ages{{1, 0}}, 1, 2, []int64{0, 1}, []int64{1, 2}},
		{impl.Ages{}, 1, 1, nil, nil},
		{impl.Ages{}, 1, 2, []int64{1}, []int64{2}},
		{impl.Ages{}, 1, 4, []int64{1, 2, 3}, []int64{2, 2, 2}},
	} {
		checkVisits(t, r, c.a, c.life, c.years)
		visits, code := impl.VisitsFor(r, c.a, c.life, c.years)
		name := fmt.Sprint(" with the life ", c.life, " for ", c.years, " years of ", c.a)
		same(t, "code", code, int64(0))
		same(t, "visits"+name, visits, c.visits)
		counts, code := impl.ReplacedAt(r, c.a, c.life, c.years)
		same(t, "code", code, int64(0))
		same(t, "replaced"+name, counts, c.counts)
	}
	for _, years := range []int64{0, 1, 200} {
		checkVisits(t, r, impl.Ages{{3, 7}}, 6, years)
		checkVisits(t, r, impl.Ages{{0, 2}}, 1, years)
		checkVisits(t, r, impl.Ages{{100}}, 99, years)
	}
}

// everyYear has the years from one to another one.
func everyYear(from, to int64) []int64 {
	var list []int64
	for year := from; year <= to; year++ {
		list = append(list, year)
	}
	return list
}

func TestCheckVisits(t *testing.T) {
	r := roof("..-")
	for what, c := range map[string]struct {
		a           impl.Ages
		life, years int64
		visits      []int64
		want        bool
	}{
		"none, and none is needed":           {impl.Ages{{3, 7}}, 10, 3, nil, true},
		"none, and one is needed":            {impl.Ages{{3, 7}}, 10, 4, nil, false},
		"just as told":                       {impl.Ages{{3, 7}}, 10, 30, []int64{3, 13, 23}, true},
		"until the last year":                {impl.Ages{{3, 7}}, 10, 33, []int64{3, 13, 23}, true},
		"one too few at the end":             {impl.Ages{{3, 7}}, 10, 34, []int64{3, 13, 23}, false},
		"one too few at the beginning":       {impl.Ages{{3, 7}}, 10, 30, []int64{13, 23}, false},
		"one too few between":                {impl.Ages{{3, 7}}, 10, 30, []int64{3, 23}, false},
		"the first one too late":             {impl.Ages{{3, 7}}, 10, 30, []int64{4, 13, 23}, false},
		"the second one too late":            {impl.Ages{{3, 7}}, 10, 30, []int64{3, 14, 23}, false},
		"the last one too late":              {impl.Ages{{3, 7}}, 10, 30, []int64{3, 13, 24}, false},
		"the first one earlier":              {impl.Ages{{3, 7}}, 10, 30, []int64{2, 12, 22}, true},
		"the first one earlier alone":        {impl.Ages{{3, 7}}, 10, 30, []int64{2, 13, 23}, false},
		"the last one earlier":               {impl.Ages{{3, 7}}, 10, 30, []int64{3, 13, 20}, true},
		"the last one much earlier":          {impl.Ages{{3, 7}}, 10, 30, []int64{3, 13, 19}, false},
		"more than needed":                   {impl.Ages{{3, 7}}, 10, 30, []int64{0, 3, 5, 13, 14, 23, 29, 30}, true},
		"one in each year":                   {impl.Ages{{3, 7}}, 10, 30, everyYear(0, 30), true},
		"in the year 0":                      {impl.Ages{{3, 7}}, 10, 10, []int64{0}, true},
		"in the year 0, and too old then":    {impl.Ages{{3, 7}}, 10, 11, []int64{0}, false},
		"in the year 0 and in the last one":  {impl.Ages{{3, 7}}, 10, 10, []int64{0, 10}, true},
		"in the last one, and needed before": {impl.Ages{{3, 7}}, 10, 4, []int64{4}, false},
		"in the last one, and not needed":    {impl.Ages{{3, 7}}, 10, 3, []int64{3}, true},
		"in the one year that there is":      {impl.Ages{{3, 7}}, 10, 0, []int64{0}, true},
		"too old now":                        {impl.Ages{{3, 7}}, 6, 0, nil, false},
		"too old now, and visited":           {impl.Ages{{3, 7}}, 6, 0, []int64{0}, false},
		"too old now, and visited in years":  {impl.Ages{{3, 7}}, 6, 5, []int64{0, 1, 2, 3, 4, 5}, false},
		"just as old as life":                {impl.Ages{{3, 7}}, 7, 1, []int64{0}, true},
		"twice the same":                     {impl.Ages{{3, 7}}, 10, 13, []int64{3, 3}, false},
		"twice the year 0":                   {impl.Ages{{3, 7}}, 10, 3, []int64{0, 0}, false},
		"twice the last year":                {impl.Ages{{3, 7}}, 10, 3, []int64{3, 3}, false},
		"descending":                         {impl.Ages{{3, 7}}, 10, 13, []int64{3, 2}, false},
		"descending at the end":              {impl.Ages{{3, 7}}, 10, 30, []int64{3, 13, 23, 22}, false},
		"less than 0":                        {impl.Ages{{3, 7}}, 10, 3, []int64{-1}, false},
		"less than 0, and then as told":      {impl.Ages{{3, 7}}, 10, 30, []int64{-1, 3, 13, 23}, false},
		"more than years":                    {impl.Ages{{3, 7}}, 10, 30, []int64{3, 13, 23, 31}, false},
		"more than years, and not needed":    {impl.Ages{{3, 7}}, 10, 0, []int64{1}, false},
		"the least number":                   {impl.Ages{{3, 7}}, 10, 3, []int64{math.MinInt64}, false},
		"the greatest number":                {impl.Ages{{3, 7}}, 10, 3, []int64{math.MaxInt64}, false},
		"the greatest one, then as told":     {impl.Ages{{3, 7}}, 10, 13, []int64{math.MaxInt64, 3}, false},
		"numbers that would be cut":          {impl.Ages{{3, 7}}, 10, 30, []int64{3 + 1<<32, 13 + 1<<32, 23 + 1<<32}, false},
		"a life of 1":                        {impl.Ages{{1, 0}}, 1, 200, everyYear(0, 199), true},
		"a life of 1, and the last year":     {impl.Ages{{0, 0}}, 1, 200, everyYear(1, 200), true},
		"a life of 1, without one":           {impl.Ages{{1, 0}}, 1, 200, everyYear(1, 199), false},
		"a life of 1, without another one":   {impl.Ages{{1, 0}}, 1, 200, append(everyYear(0, 99), everyYear(101, 199)...), false},
		"a life of 1, without the last one":  {impl.Ages{{1, 0}}, 1, 200, everyYear(0, 198), false},
		"200 of the same":                    {impl.Ages{}, 100, 200, slices.Repeat([]int64{100}, 200), false},
	} {
		same(t, "the reference with "+what, enoughIn(r, c.a, c.life, c.years, c.visits), c.want)
		enough, code := impl.CheckVisits(r, c.a, c.life, c.years, c.visits)
		same(t, what, all(enough, code), all(c.want, int64(0)))
	}
}

// TestTooManyVisits has just as many visits as there may be, and one more.
func TestTooManyVisits(t *testing.T) {
	r := roof("..-")
	for _, list := range [][]int64{everyYear(0, 200), make([]int64, 201), everyYear(-1, 199), everyYear(1, 300), slices.Repeat([]int64{math.MinInt64}, 1000)} {
		enough, code := impl.CheckVisits(r, impl.Ages{}, 1, 200, list)
		fails(t, fmt.Sprint(len(list), " visits"), impl.ErrLimit, all(enough, code))
		// A tile that is too old is no error, so that it does not come first.
		enough, code = impl.CheckVisits(r, impl.Ages{{2}}, 1, 0, list)
		fails(t, "too old", impl.ErrLimit, all(enough, code))
		enough, code = impl.CheckVisits(r, impl.Ages{}, 1, 200, list[:200])
		same(t, "just 200", code, int64(0))
		same(t, "just 200", enough, enoughIn(r, impl.Ages{}, 1, 200, list[:200]))
	}
}

// TestSomeVisits has visits that follow from numbers, with some that are none.
func TestSomeVisits(t *testing.T) {
	found := map[bool]int{}
	eachAges(func(r impl.Roof, a impl.Ages, n *numbers) {
		u := someUpkeep(r, a, n)
		u.life = max(u.life, 20)
		for range 4 {
			enough, code := impl.CheckVisits(r, a, u.life, u.years, u.visits)
			want := enoughIn(r, a, u.life, u.years, u.visits)
			same(t, fmt.Sprint(u), all(enough, code), all(want, int64(0)))
			found[want]++
			if len(u.visits) > 0 {
				u.visits[n.below(len(u.visits))] += int64(n.below(9) - 4)
			}
		}
	})
	same(t, "both are found", found[true] > 200 && found[false] > 200, true)
}

func TestValidWord(t *testing.T) {
	for letters := 1; letters <= 12; letters++ {
		for _, word := range everyWord(letters) {
			same(t, "valid: "+word, impl.ValidWord(word), true)
		}
	}
	for _, bad := range badWords() {
		same(t, fmt.Sprintf("valid: %q", bad), impl.ValidWord(bad), false)
	}
	for b := range 256 {
		for _, word := range []string{string([]byte{byte(b)}), "r" + string([]byte{byte(b)}), string([]byte{byte(b)}) + "b", "b" + string([]byte{byte(b)}) + "r"} {
			same(t, fmt.Sprintf("valid: %q", word), impl.ValidWord(word), b == 'r' || b == 'b')
		}
	}
}

func TestMakePattern(t *testing.T) {
	n := numbers(121)
	for _, r := range yearRoofs() {
		for letters := 1; letters <= 12; letters++ {
			word := someWord(&n, letters)
			for step := range 13 {
				c, code := impl.MakePattern(r, word, int64(step))
				same(t, fmt.Sprint(word, " with the step ", step), all(c, code), all(patternIn(r, word, step), int64(0)))
			}
		}
	}
	for _, c := range []struct {
		rows, word string
		step       int64
		want       string
	}{
		{".-", "r", 0, "r\n"},
		{"-.", "b", 12, "b\n"},
		{"...- -...", "rb", 0, "rbr\nrbr\n"},
		{"...- -...", "rb", 1, "rbr\nbrb\n"},
		{"-... ...-", "rb", 1, "rbr\nbrb\n"},
		{"...- -...", "rb", 2, "rbr\nrbr\n"},
		{"...- -...", "rb", 11, "rbr\nbrb\n"},
		{"...- -... ...-", "rbb", 1, "rbb\nbbr\nbrb\n"},
		{"...- -... ...-", "rbb", 2, "rbb\nbrb\nbbr\n"},
		{".- -. .-", "rbb", 2, "r\nb\nb\n"},
		{"..- -.. ..-", "rbbbbbbbbbbb", 12, "rb\nrb\nrb\n"},
		{"..- -.. ..-", "bbbbbbbbbbbr", 11, "bb\nrb\nbr\n"},
		{"........-", "bbbbbbbrbbbb", 5, "bbbbbbbr\n"},
		{"........-", "rrbbbr", 5, "rrbbbrrr\n"},
	} {
		r := roof(strings.Fields(c.rows)...)
		made, code := impl.MakePattern(r, c.word, c.step)
		same(t, c.word+" on "+c.rows, all(coloursIn(r, made), code), all(c.want, int64(0)))
	}
}

// eachColours calls a function for all roofs and all colours of the samples.
func eachColours(f func(r impl.Roof, c impl.Colours)) {
	for _, r := range yearRoofs() {
		for _, c := range sampleColours(r) {
			f(r, c)
		}
	}
}

func TestValidColours(t *testing.T) {
	eachColours(func(r impl.Roof, c impl.Colours) {
		same(t, fmt.Sprint("valid: ", c), impl.ValidColours(r, c), true)
	})
	for _, r := range yearRoofs() {
		for what, bad := range badColours(r) {
			same(t, fmt.Sprint("valid with ", what, " on ", r), impl.ValidColours(r, bad), false)
		}
	}
	for what, bad := range badRoofs() {
		same(t, "colours with "+what, impl.ValidColours(bad, impl.Colours{}), false)
	}
	for row := range 256 {
		for wide := 1; wide <= 8; wide++ {
			r := impl.Roof{Wide: int8(wide), High: 2}
			same(t, fmt.Sprint(row, " of ", wide), impl.ValidColours(r, impl.Colours{1: uint8(row)}), row < 1<<wide)
			same(t, fmt.Sprint(row, " below"), impl.ValidColours(r, impl.Colours{2: uint8(row)}), row == 0)
		}
	}
}

func TestCountColourAndOffBy(t *testing.T) {
	n := numbers(122)
	eachColours(func(r impl.Roof, c impl.Colours) {
		red, code := impl.CountColour(r, c)
		same(t, fmt.Sprint("red of ", c), all(red, code), all(offIn(r, c, impl.Colours{}), int64(0)))
		for _, other := range []impl.Colours{{}, redAll(r), someColours(r, &n, 2), c} {
			off, code := impl.OffBy(r, c, other)
			same(t, fmt.Sprint(c, " off ", other), all(off, code), all(offIn(r, c, other), int64(0)))
			back, _ := impl.OffBy(r, other, c)
			same(t, "the other way", back, off)
		}
		blue, _ := impl.OffBy(r, c, redAll(r))
		same(t, "red and blue", red+blue, int64(r.Wide)*int64(r.High))
	})
	r := impl.Roof{Wide: 8, High: 8}
	red, code := impl.CountColour(r, redAll(r))
	same(t, "all red", all(red, code), all(int64(64), int64(0)))
	off, code := impl.OffBy(r, redAll(r), impl.Colours{7: 0x80})
	same(t, "all but one", all(off, code), all(int64(63), int64(0)))
}

func TestNearestPattern(t *testing.T) {
	n := numbers(123)
	later, steps := 0, 0
	for _, r := range yearRoofs() {
		for range 6 {
			p := somePainting(r, &n)
			index, step, least, code := impl.NearestPattern(r, p.c, p.words)
			i, s, off := nearestIn(r, p.c, p.words)
			same(t, fmt.Sprint("nearest to ", p.c, " of ", p.words), all(index, step, least, code), all(i, s, off, int64(0)))
			if index > 0 {
				later++
			}
			if step > 0 {
				steps++
			}
		}
	}
	same(t, "some are not the first ones", later > 100 && steps > 100, true)
}

// TestNearestPatternOfFew has words and steps that are as near as others, words that are equal, 20 words, and steps that are not looked at.
func TestNearestPatternOfFew(t *testing.T) {
	twenty := append(slices.Repeat([]string{"b"}, 19), "r")
	for what, c := range map[string]struct {
		rows, colours    string
		words            []string
		index, step, off int64
	}{
		"just the first one":           {"...- -...", "rbr brb", []string{"rb", "r"}, 0, 1, 0},
		"just the second one":          {"...- -...", "rbr brb", []string{"r", "rb"}, 1, 1, 0},
		"two steps as near":            {"..-", "rb", []string{"rb"}, 0, 0, 0},
		"all steps as near":            {"...-", "rrr", []string{"rrrb"}, 0, 0, 0},
		"the steps 1 and 3 as near":    {"..- -..", "rb bb", []string{"rbbb"}, 0, 1, 0},
		"the last step":                {"...- -...", "rbb bbr", []string{"bbr", "brb", "rbb"}, 2, 1, 0},
		"the least of steps behind":    {"..- -.. ..-", "rb br bb", []string{"rbbb"}, 0, 3, 0},
		"two words as near":            {"..-", "rr", []string{"rb", "br", "bb"}, 0, 0, 1},
		"the second one as near":       {"..-", "rr", []string{"bb", "br", "rb"}, 1, 0, 1},
		"equal words":                  {"..- -..", "rb rb", []string{"b", "rb", "rb"}, 1, 0, 0},
		"equal words alone":            {"..-", "rb", []string{"br", "br"}, 0, 0, 2},
		"a longer one that is as near": {"..-", "rb", []string{"rb", "rbrb", "rbb"}, 0, 0, 0},
		"nothing is near":              {"..-", "rr", []string{"b"}, 0, 0, 2},
		"one tile":                     {".-", "b", []string{"rrr", "rb", "b"}, 2, 0, 0},
		"the last of 20":               {"..-", "rr", twenty, 19, 0, 0},
		"20 that are as near":          {"..-", "bb", twenty, 0, 0, 0},
		"12 letters":                   {"..- -..", "bb rb", []string{"bbbbbbbbbbbr"}, 0, 11, 0},
		"a step of the length is none": {"..- -..", "rb rb", []string{"rbb"}, 0, 0, 0},
	} {
		r := roof(strings.Fields(c.rows)...)
		colours, code := impl.ReadColours(r, strings.ReplaceAll(c.colours, " ", "\n")+"\n")
		same(t, "code", code, int64(0))
		i, s, o := nearestIn(r, colours, c.words)
		same(t, "the reference with "+what, all(i, s, o), all(c.index, c.step, c.off))
		index, step, off, code := impl.NearestPattern(r, colours, c.words)
		same(t, what, all(index, step, off, code), all(c.index, c.step, c.off, int64(0)))
	}
}

func TestPatternOf(t *testing.T) {
	found := map[bool]int{}
	eachColours(func(r impl.Roof, c impl.Colours) {
		for most := int64(1); most <= 5; most++ {
			word, step, code := impl.PatternOf(r, c, most)
			want, least := patternOfIn(r, c, most)
			found[want != ""]++
			name := fmt.Sprint("pattern of ", c, " with ", most)
			if want == "" {
				fails(t, name, impl.ErrNotFound, all(word, step, code))
				continue
			}
			same(t, name, all(word, step, code), all(want, least, int64(0)))
		}
	})
	same(t, "both are found", found[true] > 300 && found[false] > 300, true)
}

// TestPatternOfFew has words of 1 letter and of 5, several ones and several steps, and colours that only a longer word makes.
func TestPatternOfFew(t *testing.T) {
	for what, c := range map[string]struct {
		rows, colours string
		most          int64
		word          string
		step          int64
	}{
		"all blue":                     {"...- -...", "bbb bbb", 5, "b", 0},
		"all red":                      {"...- -...", "rrr rrr", 1, "r", 0},
		"one tile":                     {".-", "b", 1, "b", 0},
		"of the example":               {"...- -...", "rbr brb", 3, "rb", 1},
		"one letter is too few":        {"...- -...", "rbr brb", 1, "", 0},
		"just two letters":             {"...- -...", "rbr brb", 2, "rb", 1},
		"the same in each course":      {"...- -...", "rbr rbr", 2, "rb", 0},
		"the shorter one":              {"..-", "rb", 5, "rb", 0},
		"the first one as a text":      {"..-", "bb", 5, "b", 0},
		"the first one of three":       {"..- -..", "bb rb", 3, "bbr", 2},
		"the first word, a later step": {".- -.", "b r", 5, "br", 1},
		"the least step of two":        {".- -.", "r r", 5, "r", 0},
		"three letters":                {".- -. .- -.", "r b b r", 5, "rbb", 1},
		"five letters":                 {".....-", "rbbbb", 5, "rbbbb", 0},
		"four are too few":             {".....- -.....", "rbbbb rbbbb", 4, "", 0},
		"the last word of five":        {".....- -.....", "rrrrb rrrbr", 5, "rrrrb", 1},
		"the last step of five":        {".....- -.....", "rrrrb brrrr", 5, "rrrrb", 4},
		"six letters":                  {"......-", "rbbbbb", 5, "", 0},
		"six letters that wrap":        {"......-", "rbbbbr", 5, "rbbbb", 0},
		"no step":                      {".....- -.....", "rbrrb rrrrr", 5, "", 0},
	} {
		r := roof(strings.Fields(c.rows)...)
		colours, code := impl.ReadColours(r, strings.ReplaceAll(c.colours, " ", "\n")+"\n")
		same(t, "code", code, int64(0))
		wantCode := int64(impl.OK)
		if c.word == "" {
			wantCode = impl.ErrNotFound
		}
		word, step, code := impl.PatternOf(r, colours, c.most)
		same(t, what, all(word, step, code), all(c.word, c.step, wantCode))
	}
}

func TestMirrorColours(t *testing.T) {
	eachColours(func(r impl.Roof, c impl.Colours) {
		mirror, code := impl.MirrorColours(r, c)
		same(t, "code", code, int64(0))
		for _, at := range placesIn(r) {
			other := impl.Place{Course: at.Course, Tile: r.Wide - 1 - at.Tile}
			same(t, fmt.Sprint(at, " of ", mirror), redIn(mirror, other), redIn(c, at))
		}
		mirrored, _ := impl.MirrorRoof(r)
		same(t, "valid", impl.ValidColours(mirrored, mirror), true)
		again, code := impl.MirrorColours(mirrored, mirror)
		same(t, "mirrored twice", all(again, code), all(c, int64(0)))
	})
	// Where red tiles are missing, those of the mirrored roof are missing, too.
	for _, r := range yearRoofs() {
		whole := frameOf(r)
		for _, c := range sampleColours(r) {
			mirror, _ := impl.MirrorColours(r, c)
			mirrored, _ := impl.MirrorRoof(missingWhere(whole, c))
			frame, _ := impl.MirrorRoof(whole)
			same(t, "as the roof", missingWhere(frame, mirror), mirrored)
		}
	}
	for _, c := range [][3]string{
		{".- -.", "r b", "r b"},
		{"..-", "rb", "br"},
		{"...- -...", "rbb bbb", "bbr bbb"},
		{"...- -... ...-", "rrb bbr brb", "brr rbb brb"},
		{"........-", "rbbbbbbr", "rbbbbbbr"},
		{"........- -........", "rrbbbbbb brrrrrrr", "bbbbbbrr rrrrrrrb"},
		{".......- -.......", "rrbbbbb brrrrrr", "bbbbbrr rrrrrrb"},
	} {
		r := roof(strings.Fields(c[0])...)
		colours, _ := impl.ReadColours(r, strings.ReplaceAll(c[1], " ", "\n")+"\n")
		mirror, code := impl.MirrorColours(r, colours)
		same(t, "mirrored "+c[1], all(coloursIn(r, mirror), code), all(strings.ReplaceAll(c[2], " ", "\n")+"\n", int64(0)))
	}
}

// missingWhere returns a roof in which all tiles that are red are missing.
func missingWhere(r impl.Roof, c impl.Colours) impl.Roof {
	for _, at := range placesIn(r) {
		if redIn(c, at) {
			r.Tiles[at.Course][at.Tile] = impl.TiMissing
		}
	}
	return r
}

func TestColoursText(t *testing.T) {
	eachColours(func(r impl.Roof, c impl.Colours) {
		text := impl.ColoursText(r, c)
		same(t, "text", text, coloursIn(r, c))
		read, code := impl.ReadColours(r, text)
		same(t, fmt.Sprintf("read %q", text), all(read, code), all(c, int64(0)))
	})
	for text, c := range map[string]impl.Colours{
		"b\n":                      {},
		"r\n":                      {1},
		"rb\nbr\n":                 {1, 2},
		"bbr\nrrb\n":               {4, 3},
		"r\nb\nr\nb\nr\nb\nr\nr\n": {1, 0, 1, 0, 1, 0, 1, 1},
		"rbbbbbbr\n":               {0x81},
	} {
		r := impl.Roof{Wide: int8(strings.IndexByte(text, '\n')), High: int8(strings.Count(text, "\n"))}
		same(t, "text", impl.ColoursText(r, c), text)
		read, code := impl.ReadColours(r, text)
		same(t, fmt.Sprintf("read %q", text), all(read, code), all(c, int64(0)))
	}
	for _, r := range yearRoofs() {
		for what, bad := range badColours(r) {
			same(t, "text with "+what, impl.ColoursText(r, bad), "")
		}
	}
	for what, bad := range badRoofs() {
		same(t, "text with "+what, impl.ColoursText(bad, impl.Colours{}), "")
	}
}

// checkColoursText asserts that a text is read if it is one of colours, and refused otherwise.
func checkColoursText(t *testing.T, r impl.Roof, text string) {
	t.Helper()
	c, code := impl.ReadColours(r, text)
	name := fmt.Sprintf("read %q", text)
	if !isTextOfColours(r, text) {
		fails(t, name, impl.ErrSyntax, all(c, code))
		return
	}
	same(t, name, all(impl.ValidColours(r, c), coloursIn(r, c), code), all(true, text, int64(0)))
}

// TestChangedColours has all texts that differ from one of colours in one byte, by one that is missing, other, or more.
func TestChangedColours(t *testing.T) {
	for _, rows := range [][]string{{".-"}, {"...-", "-..."}, {"..-", "-..", "..-"}, {"-........"}} {
		r := roof(rows...)
		for _, c := range sampleColours(r)[:4] {
			text := coloursIn(r, c)
			for i := range len(text) + 1 {
				for b := range 256 {
					with := string([]byte{byte(b)})
					checkColoursText(t, r, text[:i]+with+text[i:])
					if i < len(text) {
						checkColoursText(t, r, text[:i]+with+text[i+1:])
					}
				}
				if i < len(text) {
					checkColoursText(t, r, text[:i]+text[i+1:])
				}
			}
		}
	}
}

// TestNearlyColours has texts that are nearly those of colours of a roof of 3 by 2 tiles.
func TestNearlyColours(t *testing.T) {
	r := roof("...-", "-...")
	for _, text := range []string{
		"", "\n", "\n\n", "rbr", "rbr\n", "rbr\nbrb", "rbr\nbrb\n\n", "\nrbr\nbrb\n", "rbr\n\nbrb\n", "rbr\nbrb\nrbr\n", "rbr\nbrb\nr", "rbrbrb\n", "rbrbrb\n\n", "rb\nrbrb\n", "rbrb\nrb\n", "rb\nbr\n", "rbrb\nbrbr\n", "rbr\nbr\n", "rb\nbrb\n", "\nrbrbrb\n",
		"rbr brb\n", "rbr\nbrb ", "rbr\rbrb\r", "rbr\r\nbrb\r\n", "rbr\n\rbrb", "rbr\nbrb\r", "rbr\nbrb\x00", "rbr\nbrx\n", "xbr\nbrb\n", "Rbr\nbrb\n", "RBR\nBRB\n", "101\n010\n", "rbr-\n-brb\n", "rbr\nbr.\n", "r r\nbrb\n", "rbr\nb\nb\n", "rb\n\nbrb\n", "\u0440br\nbrb\n", "rb\u0440\nbr\n", "...-\n-...\n",
	} {
		checkColoursText(t, r, text)
		c, code := impl.ReadColours(r, text)
		fails(t, fmt.Sprintf("read %q", text), impl.ErrSyntax, all(c, code))
		for what, bad := range badRoofs() {
			c, code := impl.ReadColours(bad, text)
			fails(t, fmt.Sprintf("read %q with %s", text, what), impl.ErrInvalid, all(c, code))
		}
	}
	for _, text := range []string{strings.Repeat("r", 1000000), strings.Repeat("\n", 1000000), strings.Repeat("rbr\n", 250000)} {
		c, code := impl.ReadColours(r, text)
		fails(t, fmt.Sprintf("read %d bytes", len(text)), impl.ErrSyntax, all(c, code))
	}
}
