package tests

import (
	"fmt"
	"math"
	"strings"
	"testing"

	"loop.example/g01376/impl"
)

func TestConstantsOfRain(t *testing.T) {
	same(t, "limits", [2]int{impl.MaxRain, impl.MaxPail}, [2]int{1000, 10000})
	same(t, "sizes", [3]int{len(impl.Rain{}), len(impl.Drips{}), len(impl.Drips{}[0])}, [3]int{17, 8, 17})
}

func TestValidRain(t *testing.T) {
	eachRain(func(r impl.Roof, w impl.Rain) {
		if !impl.ValidRain(r, w) {
			t.Errorf("%v is valid for %v", w, r)
		}
		for what, bad := range badRains(r) {
			if impl.ValidRain(r, bad) {
				t.Errorf("%s is not valid for %v", what, r)
			}
		}
	})
	for what, bad := range badRoofs() {
		if impl.ValidRain(bad, impl.Rain{}) {
			t.Errorf("no rain is valid for a roof with %s", what)
		}
	}
}

func TestEvenRain(t *testing.T) {
	for _, r := range sampleRoofs() {
		for _, amount := range []int64{0, 1, 7, 999, 1000} {
			w, code := impl.EvenRain(r, amount)
			same(t, "even rain", all(w, code), all(evenOf(r, amount), int64(0)))
		}
		for _, amount := range []int64{-1, 1001, math.MinInt64, math.MaxInt64, 1 << 16, 1<<16 + 7, 1<<32 + 7, -1 << 16} {
			w, code := impl.EvenRain(r, amount)
			fails(t, "even rain", impl.ErrRange, all(w, code))
		}
	}
}

func TestRainSum(t *testing.T) {
	eachRain(func(r impl.Roof, w impl.Rain) {
		var want int64
		for _, amount := range w {
			want += int64(amount)
		}
		sum, code := impl.RainSum(r, w)
		same(t, "sum", all(sum, code), all(want, int64(0)))
	})
	sum, code := impl.RainSum(impl.Roof{Wide: 8, High: 1}, evenOf(impl.Roof{Wide: 8}, 1000))
	same(t, "greatest sum", all(sum, code), all(int64(17000), int64(0)))
}

func TestRunDown(t *testing.T) {
	eachRain(func(r impl.Roof, w impl.Rain) {
		want := runningOf(r, w)
		drips, gutter, code := impl.RunDown(r, w)
		same(t, "drips and gutter", all(drips, gutter, code), all(want.drips, want.gutter, int64(0)))
	})
}

// TestRounding has what drips of 0 to 7, and of 1000, by kinds.
func TestRounding(t *testing.T) {
	amounts := []int16{0, 1, 2, 3, 4, 5, 6, 7, 1000}
	for row, want := range map[string][]int32{
		".-": {0, 0, 0, 0, 0, 0, 0, 0, 0},
		"x-": {0, 1, 1, 2, 2, 3, 3, 4, 500},
		"s-": {0, 1, 1, 1, 2, 2, 2, 3, 334},
		"o-": {0, 1, 2, 3, 4, 5, 6, 7, 1000},
	} {
		for i, amount := range amounts {
			drips, gutter, code := impl.RunDown(roof(row), rainOf(amount, amount, amount))
			same(t, "drips of "+row, drips, impl.Drips{{want[i], want[i], 0}})
			rest := int64(amount) - int64(want[i])
			same(t, "gutter of "+row, all(gutter, code), all([]int64{rest, rest, int64(amount)}, int64(0)))
		}
	}
}

// TestGaps has missing tiles below tiles of all kinds, and below half tiles.
func TestGaps(t *testing.T) {
	for _, c := range []struct {
		rows   []string
		drips  impl.Drips
		gutter []int64
	}{
		{[]string{"s-", "-o"}, impl.Drips{{3, 3, 0}, {0, 0, 9}}, []int64{6, 6, 0}},
		{[]string{"-s", "o-"}, impl.Drips{{0, 3, 3}, {9, 0, 0}}, []int64{0, 6, 6}},
		{[]string{".-", "-o"}, impl.Drips{{}, {0, 9, 9}}, []int64{9, 0, 0}},
		{[]string{"x-", "-o"}, impl.Drips{{5, 5, 0}, {0, 4, 9}}, []int64{4, 0, 0}},
		{[]string{"o-", "-o"}, impl.Drips{{9, 9, 0}, {0, 0, 9}}, []int64{0, 0, 0}},
		{[]string{"-o", "s-"}, impl.Drips{{0, 9, 9}, {3, 0, 0}}, []int64{6, 0, 0}},
		{[]string{"s-", "-o", "o-"}, impl.Drips{{3, 3, 0}, {0, 0, 9}, {6, 6, 0}}, []int64{0, 0, 0}},
		{[]string{"s-", "-.", "o-"}, impl.Drips{{3, 3, 0}, {}, {6, 6, 0}}, []int64{0, 0, 9}},
		{[]string{"ss-", "-o.", "oo-"}, impl.Drips{{3, 3, 3, 3, 0}, {}, {6, 6, 6, 6, 0}}, []int64{0, 0, 0, 0, 9}},
		{[]string{"s.-", "-oo"}, impl.Drips{{3, 3, 0, 0, 0}, {0, 0, 9, 9, 9}}, []int64{6, 6, 0, 0, 0}},
		{[]string{".-", "-s", "o-"}, impl.Drips{{}, {0, 3, 3}, {9, 0, 0}}, []int64{0, 6, 6}},
	} {
		r := roof(c.rows...)
		drips, gutter, code := impl.RunDown(r, evenOf(r, 9))
		same(t, strings.Join(c.rows, " "), all(drips, gutter, code), all(c.drips, c.gutter, int64(0)))
	}
}

func TestSumsOfDrips(t *testing.T) {
	eachRain(func(r impl.Roof, w impl.Rain) {
		drips := runningOf(r, w).drips
		sum, code := impl.DripSum(r, w)
		same(t, "sum", all(sum, code), all(dripsOf(r, w), int64(0)))
		var want []int64
		for course := range int(r.High) {
			want = append(want, sumOf(drips, func(other, cell int) bool { return other == course }))
		}
		sums, code := impl.CourseDrips(r, w)
		same(t, "sums of courses", all(sums, code), all(want, int64(0)))
		sums, code = impl.CellDrips(r, w)
		same(t, "sums of cells", all(sums, code), all(cellDripsOf(r, w), int64(0)))
	})
}

func TestFirstDrip(t *testing.T) {
	eachRain(func(r impl.Roof, w impl.Rain) {
		drips := runningOf(r, w).drips
		want := all(int64(0), int64(0), int64(impl.ErrNotFound))
		for course := 7; course >= 0; course-- {
			for cell := 16; cell >= 0; cell-- {
				if drips[course][cell] > 0 {
					want = all(int64(course), int64(cell), int64(0))
				}
			}
		}
		course, cell, code := impl.FirstDrip(r, w)
		same(t, "first drip", all(course, cell, code), want)
	})
	course, cell, code := impl.FirstDrip(roof("..-", "-.x", "x.-"), rainOf(1, 0, 0, 1, 1))
	same(t, "by course, then by cell", all(course, cell, code), all(int64(1), int64(3), int64(0)))
	course, cell, code = impl.FirstDrip(roof("..-", "-.x", "x.-"), rainOf(1, 0, 0, 0, 0))
	same(t, "last course", all(course, cell, code), all(int64(2), int64(0), int64(0)))
}

func TestWorstCell(t *testing.T) {
	eachRain(func(r impl.Roof, w impl.Rain) {
		want := all(int64(0), int64(0), int64(impl.ErrNotFound))
		var most int64
		for cell, sum := range cellDripsOf(r, w) {
			if sum > most {
				most = sum
				want = all(int64(cell), sum, int64(0))
			}
		}
		cell, sum, code := impl.WorstCell(r, w)
		same(t, "worst cell", all(cell, sum, code), want)
	})
	cell, sum, code := impl.WorstCell(roof("xxx-"), rainOf(2, 3, 7, 8, 7, 1, 1000))
	same(t, "the first one of several", all(cell, sum, code), all(int64(2), int64(4), int64(0)))
	cell, sum, code = impl.WorstCell(roof("o.-", "-.o"), rainOf(0, 0, 5, 5, 5))
	same(t, "in different courses", all(cell, sum, code), all(int64(3), int64(5), int64(0)))
}

func TestWetAndDryTiles(t *testing.T) {
	eachRain(func(r impl.Roof, w impl.Rain) {
		comes := runningOf(r, w).comes
		isWet := func(at impl.Place) bool {
			first := firstCell(r, at)
			return comes[at.Course][first]+comes[at.Course][first+1] > 0
		}
		wet, code := impl.WetTiles(r, w)
		same(t, "wet code", code, int64(0))
		same(t, "wet", wet, placesWhere(r, isWet))
		dry, code := impl.DryTiles(r, w)
		same(t, "dry code", code, int64(0))
		same(t, "dry", dry, placesWhere(r, func(at impl.Place) bool { return !isWet(at) }))
	})
}

// TestTilesBelowGaps has tiles that are dry below a gap, and a gap that is wet.
func TestTilesBelowGaps(t *testing.T) {
	r := roof("o.-", "-.x", "..-")
	wet, code := impl.WetTiles(r, rainOf(5, 5))
	same(t, "a missing tile is wet", all(wet, code), all([]impl.Place{{}}, int64(0)))
	dry, code := impl.DryTiles(r, rainOf(5, 5))
	same(t, "below it is dry", all(dry, code), all([]impl.Place{{Tile: 1}, {Course: 1}, {Course: 1, Tile: 1}, {Course: 2}, {Course: 2, Tile: 1}}, int64(0)))
	wet, code = impl.WetTiles(r, rainOf(0, 0, 0, 1))
	same(t, "one cell alone, up to the crack that takes all", all(wet, code), all([]impl.Place{{Tile: 1}, {Course: 1, Tile: 1}}, int64(0)))
	wet, code = impl.WetTiles(r, rainOf(0, 0, 0, 0, 1))
	same(t, "over the half tiles", all(wet, code), all([]impl.Place{{Course: 1, Tile: 1}}, int64(0)))
	wet, code = impl.WetTiles(roof("s-", "-o", ".-"), rainOf(0, 9))
	same(t, "a gap with a slipped tile over it", all(wet, code), all([]impl.Place{{}, {Course: 1}, {Course: 2}}, int64(0)))
}

func TestSaveOf(t *testing.T) {
	eachRain(func(r impl.Roof, w impl.Rain) {
		for _, at := range placesIn(r) {
			less, code := impl.SaveOf(r, w, at)
			same(t, "save", all(less, code), all(saveIn(r, w, at), int64(0)))
		}
	})
}

func TestSaveThatIsLessThanNothing(t *testing.T) {
	r := roof("s-", "-o")
	less, code := impl.SaveOf(r, rainOf(0, 6, 0), impl.Place{})
	same(t, "the slipped tile covers the gap", all(less, code), all(int64(-4), int64(0)))
	less, code = impl.SaveOf(r, rainOf(6, 0, 0), impl.Place{})
	same(t, "beside the gap", all(less, code), all(int64(2), int64(0)))
	best, less, code := impl.BestSave(r, rainOf(0, 6, 0))
	same(t, "best", all(best, less, code), all(impl.Place{Course: 1}, int64(0), int64(0)))
	list, code := impl.MendUntil(r, rainOf(0, 6, 0), 1)
	same(t, "mended", all(list, code), all([]impl.Place{{Course: 1}, {}}, int64(0)))
}

func TestMendUntil(t *testing.T) {
	for i, r := range sampleRoofs() {
		w := sampleRains(r)[i%6]
		sum := dripsOf(r, w)
		for _, bound := range []int64{0, 1, sum / 2, sum - 1, sum, sum + 1, math.MaxInt64} {
			if bound < 0 {
				continue
			}
			var want []impl.Place
			mended := r
			for dripsOf(mended, w) > bound {
				at, _, _ := bestIn(mended, w)
				mended = mendedAt(mended, at)
				want = append(want, at)
			}
			list, code := impl.MendUntil(r, w, bound)
			same(t, "code", code, int64(0))
			same(t, "mended", list, want)
		}
	}
}

func TestBoundsOfMendUntil(t *testing.T) {
	r, w := rainyRoof(), evenOf(rainyRoof(), 7)
	for bound, want := range map[int64][]impl.Place{
		29: {},
		28: {{Course: 1, Tile: 1}},
		15: {{Course: 1, Tile: 1}},
		14: {{Course: 1, Tile: 1}, {Course: 2}},
		12: {{Course: 1, Tile: 1}, {Course: 2}},
	} {
		list, code := impl.MendUntil(r, w, bound)
		same(t, "code", code, int64(0))
		same(t, "mended", list, want)
	}
	list, code := impl.MendUntil(roof("xx-"), evenOf(roof("xx-"), 4), 0)
	same(t, "the first one of several", all(list, code), all([]impl.Place{{}, {Tile: 1}}, int64(0)))
	list, code = impl.MendUntil(roof("..-"), evenOf(roof("..-"), 1000), 0)
	same(t, "whole", all(len(list), code), all(0, int64(0)))
	for _, bound := range []int64{-1, math.MinInt64} {
		list, code := impl.MendUntil(r, w, bound)
		fails(t, "MendUntil", impl.ErrRange, all(list, code))
		least, code := impl.LeastRain(r, bound)
		fails(t, "LeastRain", impl.ErrRange, all(least, code))
	}
}

func TestLeastRain(t *testing.T) {
	for i, r := range sampleRoofs() {
		most := dripsOf(r, evenOf(r, 1000))
		some := dripsOf(r, evenOf(r, int64(i%500)))
		for _, bound := range []int64{0, 1, some, some + 1, most - 1, most, most + 1, math.MaxInt64} {
			if bound < 0 {
				continue
			}
			least, code := impl.LeastRain(r, bound)
			if most <= bound {
				fails(t, "no rain", impl.ErrNotFound, all(least, code))
				continue
			}
			same(t, "code", code, int64(0))
			if dripsOf(r, evenOf(r, least)) <= bound || dripsOf(r, evenOf(r, least-1)) > bound {
				t.Errorf("%v: the least rain for %d is not %d", r, bound, least)
			}
		}
	}
}

func TestBoundsOfLeastRain(t *testing.T) {
	for bound, want := range map[int64]results{
		0:             all(int64(1), int64(0)),
		1:             all(int64(1), int64(0)),
		2:             all(int64(3), int64(0)),
		998:           all(int64(999), int64(0)),
		999:           all(int64(999), int64(0)),
		1000:          all(int64(0), int64(impl.ErrNotFound)),
		math.MaxInt64: all(int64(0), int64(impl.ErrNotFound)),
	} {
		least, code := impl.LeastRain(roof("x-"), bound)
		same(t, fmt.Sprint("bound ", bound), all(least, code), want)
	}
	least, code := impl.LeastRain(roof("o-"), 1999)
	same(t, "as much as there can be", all(least, code), all(int64(1000), int64(0)))
	least, code = impl.LeastRain(roof("..-", "-.."), 0)
	fails(t, "whole", impl.ErrNotFound, all(least, code))
}

func TestPails(t *testing.T) {
	eachRain(func(r impl.Roof, w impl.Rain) {
		for _, size := range []int64{1, 2, 5, 100, 999, 1000, 1001, 10000} {
			var pails int64
			var times []int64
			for _, sum := range cellDripsOf(r, w) {
				for left := sum; left > 0; left -= size {
					pails++
				}
				var falls int64
				for sum > 0 && falls*sum < size {
					falls++
				}
				times = append(times, falls)
			}
			got, code := impl.PailsFor(r, w, size)
			same(t, "pails", all(got, code), all(pails, int64(0)))
			list, code := impl.FillTimes(r, w, size)
			same(t, "times", all(list, code), all(times, int64(0)))
		}
	})
}

func TestSizesOfPails(t *testing.T) {
	r, w := roof("oo-"), rainOf(1, 3, 4, 1000, 1000)
	for size, want := range map[int64]results{
		1:     all(int64(1008), []int64{1, 1, 1, 1, 0}),
		2:     all(int64(1+2+2+500), []int64{2, 1, 1, 1, 0}),
		3:     all(int64(1+1+2+334), []int64{3, 1, 1, 1, 0}),
		4:     all(int64(1+1+1+250), []int64{4, 2, 1, 1, 0}),
		10000: all(int64(4), []int64{10000, 3334, 2500, 10, 0}),
	} {
		pails, one := impl.PailsFor(r, w, size)
		times, two := impl.FillTimes(r, w, size)
		same(t, fmt.Sprint("size ", size), all(pails, times, one, two), append(want, int64(0), int64(0)))
	}
	for _, size := range []int64{0, -1, 10001, math.MinInt64, math.MaxInt64, 1 << 16, 1<<32 + 1} {
		pails, code := impl.PailsFor(r, w, size)
		fails(t, "PailsFor", impl.ErrRange, all(pails, code))
		times, code := impl.FillTimes(r, w, size)
		fails(t, "FillTimes", impl.ErrRange, all(times, code))
	}
}

func TestRainText(t *testing.T) {
	eachRain(func(r impl.Roof, w impl.Rain) {
		want := strings.Trim(fmt.Sprint(w[:acrossOf(r)]), "[]")
		same(t, "text", impl.RainText(r, w), want)
		read, code := impl.ReadRain(r, want)
		same(t, "read", all(read, code), all(w, int64(0)))
	})
	same(t, "example", impl.RainText(roof(".-"), rainOf(0, 10, 1000)), "0 10 1000")
}

func TestTextsOfNoRain(t *testing.T) {
	texts := []string{
		"", " ", "7", "\n", "7 7 7 7", "7 7 7 7 7 7", "7 7 7 7 7 0", " 7 7 7 7 7", "7 7 7 7 7 ", "7  7 7 7 7", "7 7 7 7 ", " 7 7 7 7", "    ", "     ", "7 7 7 7 7\n", "\n7 7 7 7 7", "7\n7 7 7 7", "7\t7 7 7 7", "7,7,7,7,7",
		"07 7 7 7 7", "7 7 7 7 00", "7 7 000 7 7", "+7 7 7 7 7", "7 -0 7 7 7", "7 7 7 7 +0", "-7 7 7 7 7", "7 7 7 7 -1", "7 7 - 7 7", "7 7 + 7 7",
		"1001 7 7 7 7", "7 7 7 7 1001", "32767 7 7 7 7", "32768 7 7 7 7", "65543 7 7 7 7", "4294967303 7 7 7 7", "7 7 7 7 18446744073709551623", "7 7 7 7 -65529",
		"7 7 7 7 7.0", "7 7 7 7 7.", "0x7 7 7 7 7", "7 1_0 7 7 7", "7 7 1e2 7 7", "7 7 7 7 x", "7 7 7 7 \u0667", "7\u00a07 7 7 7", "7 7 7 7 7\x00", "\xff 7 7 7 7",
		strings.Repeat("7 ", 500000), strings.Repeat(" ", 1000000), strings.Repeat("7", 1000000), strings.Repeat("0", 999992) + " 7 7 7 7", "7 7 7 7 " + strings.Repeat("9", 999992), strings.Repeat("\n", 1000000),
	}
	for _, text := range texts {
		w, code := impl.ReadRain(rainyRoof(), text)
		fails(t, "text "+text[:min(len(text), 20)], impl.ErrSyntax, all(w, code))
	}
}

// TestTextsOfRainChanged puts each byte at each place of a text, and ahead of it: what is read has to have just this text.
func TestTextsOfRainChanged(t *testing.T) {
	r, text := roof(".-"), "1000 0 37"
	for i := range len(text) {
		for b := range 256 {
			for _, changed := range []string{text[:i] + string([]byte{byte(b)}) + text[i+1:], text[:i] + string([]byte{byte(b)}) + text[i:], text[:i] + text[i+1:]} {
				w, code := impl.ReadRain(r, changed)
				if code == impl.OK {
					same(t, "text", impl.RainText(r, w), changed)
					same(t, "valid", impl.ValidRain(r, w), true)
				} else {
					fails(t, "changed text", impl.ErrSyntax, all(w, code))
				}
			}
		}
	}
}

func TestRangeOfPlacesInRain(t *testing.T) {
	for _, r := range []impl.Roof{rainyRoof(), roof(".-"), {Wide: 8, High: 8}, {Wide: 8, High: 1, Shift: 1}} {
		for _, at := range append(badPlaces(), impl.Place{Course: r.High}, impl.Place{Tile: r.Wide}) {
			less, code := impl.SaveOf(r, evenOf(r, 7), at)
			fails(t, "SaveOf", impl.ErrRange, all(less, code))
		}
	}
}

// TestWhereNothingIsFound has roofs that are whole, and rain of nothing.
func TestWhereNothingIsFound(t *testing.T) {
	whole := impl.Roof{Wide: 3, High: 4, Shift: 1}
	got := callsOfRain(whole, evenOf(whole, 1000))
	fails(t, "FirstDrip", impl.ErrNotFound, got["FirstDrip"])
	fails(t, "WorstCell", impl.ErrNotFound, got["WorstCell"])
	fails(t, "BestSave", impl.ErrNotFound, got["BestSave"])
	got = callsOfRain(roof("..-", "-.x"), impl.Rain{})
	fails(t, "FirstDrip without rain", impl.ErrNotFound, got["FirstDrip"])
	fails(t, "WorstCell without rain", impl.ErrNotFound, got["WorstCell"])
	same(t, "BestSave without rain", got["BestSave"], all(impl.Place{Course: 1, Tile: 1}, int64(0), int64(0)))
}
