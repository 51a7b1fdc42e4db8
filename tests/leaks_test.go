package tests

import (
	"fmt"
	"math"
	"slices"
	"strings"
	"testing"

	"loop.example/g01376/impl"
)

func TestConstantsOfLeaks(t *testing.T) {
	same(t, "limits", [3]int{impl.MaxWrong, impl.MaxRoofs, impl.MaxCases}, [3]int{10, 500, 6})
}

func TestComesTo(t *testing.T) {
	eachRain(func(r impl.Roof, w impl.Rain) {
		drips := runningOf(r, w).drips
		want := all(comesIn(r, w, drips), int64(0))
		comes, code := impl.ComesTo(r, w, drips)
		same(t, "comes", all(comes, code), want)
		comes, code = impl.ComesTo(frameOf(r), w, drips)
		same(t, "comes to tiles that are not known", all(comes, code), want)
	})
	r := roof("..-", "-..", "..-")
	comes, code := impl.ComesTo(r, rainOf(9, 8, 0, 0, 1000), impl.Drips{{9, 1, 0, 0, 1}, {0, 2}, {0, 5, 0, 0, 999}})
	same(t, "all that is there drips", all(comes, code), all(impl.Drips{{9, 8, 0, 0, 1000}, {0, 7, 0, 0, 999}, {0, 5, 0, 0, 999}}, int64(0)))
}

func TestKindsFor(t *testing.T) {
	eachRain(func(r impl.Roof, w impl.Rain) {
		run := runningOf(r, w)
		for _, at := range placesIn(r) {
			var want uint8
			first := firstCell(r, at)
			for kind := range int64(4) {
				left := couldDrip(kind, run.comes[at.Course][first], int64(run.drips[at.Course][first]))
				right := couldDrip(kind, run.comes[at.Course][first+1], int64(run.drips[at.Course][first+1]))
				if left && right {
					want |= 1 << kind
				}
			}
			kinds, code := impl.KindsFor(frameOf(r), w, run.drips, at)
			same(t, "kinds", all(kinds, code), all(want, int64(0)))
		}
	})
}

// TestKindsOfDrips has one tile with water in its cells, and what drips of it.
func TestKindsOfDrips(t *testing.T) {
	for _, c := range []struct {
		water, drips [2]int16
		kinds        uint8
	}{
		{[2]int16{0, 0}, [2]int16{0, 0}, 15},
		{[2]int16{1, 0}, [2]int16{0, 0}, 9},
		{[2]int16{1, 0}, [2]int16{1, 0}, 14},
		{[2]int16{1, 1}, [2]int16{1, 1}, 14},
		{[2]int16{1, 1}, [2]int16{0, 1}, 8},
		{[2]int16{2, 1}, [2]int16{1, 1}, 6},
		{[2]int16{4, 2}, [2]int16{2, 1}, 6},
		{[2]int16{3, 0}, [2]int16{2, 0}, 2},
		{[2]int16{0, 3}, [2]int16{0, 1}, 4},
		{[2]int16{3, 4}, [2]int16{1, 2}, 4},
		{[2]int16{3, 5}, [2]int16{2, 2}, 0},
		{[2]int16{9, 9}, [2]int16{9, 9}, 8},
		{[2]int16{9, 9}, [2]int16{9, 0}, 8},
		{[2]int16{9, 9}, [2]int16{0, 9}, 8},
		{[2]int16{9, 9}, [2]int16{0, 3}, 0},
		{[2]int16{9, 9}, [2]int16{9, 3}, 0},
		{[2]int16{9, 9}, [2]int16{4, 0}, 0},
		{[2]int16{1000, 999}, [2]int16{500, 500}, 2},
		{[2]int16{1000, 999}, [2]int16{334, 333}, 4},
	} {
		for _, r := range []impl.Roof{roof(".-"), roof("-.")} {
			first := firstCell(r, impl.Place{})
			var w impl.Rain
			var d impl.Drips
			for i := range int64(2) {
				w[first+i] = c.water[i]
				d[0][first+i] = int32(c.drips[i])
			}
			kinds, code := impl.KindsFor(r, w, d, impl.Place{})
			same(t, fmt.Sprint("kinds for ", c.water, c.drips), all(kinds, code), all(c.kinds, int64(0)))
		}
	}
}

func TestExplains(t *testing.T) {
	eachRain(func(r impl.Roof, w impl.Rain) {
		drips := runningOf(r, w).drips
		is, code := impl.Explains(r, w, drips)
		same(t, "its own drips", all(is, code), all(true, int64(0)))
		for _, other := range []impl.Roof{frameOf(r), mendedAt(r, placesIn(r)[0])} {
			is, code := impl.Explains(other, w, drips)
			same(t, "those of another roof", all(is, code), all(runningOf(other, w).drips == drips, int64(0)))
		}
		if drips != (impl.Drips{}) {
			is, code := impl.Explains(r, w, impl.Drips{})
			same(t, "no drips", all(is, code), all(false, int64(0)))
		}
	})
}

// TestTilesAreNotKnown has roofs of which Wide, High and Shift alone are looked at.
func TestTilesAreNotKnown(t *testing.T) {
	eachSeen(3, 4, func(frame impl.Roof, w impl.Rain, s seen) {
		at := placesIn(frame)[0]
		for kind := range int64(4) {
			want := callsOfSeen(frame, w, s.drips, at, kind)
			for _, r := range everyRoof(frame) {
				for name, got := range callsOfSeen(r, w, s.drips, at, kind) {
					if name != "Explains" {
						same(t, name, got, want[name])
					}
				}
			}
		}
	})
}

func TestUnsoundDrips(t *testing.T) {
	for i, r := range sampleRoofs() {
		w := sampleRains(r)[i%6]
		for what, d := range unsoundDrips(r, w) {
			for name, got := range callsOfSeen(r, w, d, impl.Place{}, int64(i%4)) {
				fails(t, name+" with "+what, impl.ErrState, got)
			}
		}
	}
}

// TestSoundDrips has as much as can drip, in one course and in several ones.
func TestSoundDrips(t *testing.T) {
	r := roof("..-", "-..")
	for _, d := range []impl.Drips{{}, {{7, 7, 7, 7, 7}}, {{}, {7, 7, 7, 7, 7}}, {{3, 4, 0, 7, 1}, {4, 3, 7, 0, 6}}} {
		for name, got := range callsOfSeen(r, evenOf(r, 7), d, impl.Place{}, 0) {
			if got.code() == impl.ErrState {
				t.Errorf("%s: %v are sound", name, d)
			}
		}
	}
}

func TestRangeOfPlacesAndKinds(t *testing.T) {
	for _, r := range []impl.Roof{leakyRoof(), roof(".-"), {Wide: 8, High: 8}, {Wide: 8, High: 1, Shift: 1}} {
		for _, d := range []impl.Drips{{}, {{-1}}, {{1001}}} {
			for _, at := range append(badPlaces(), impl.Place{Course: r.High}, impl.Place{Tile: r.Wide}) {
				got := callsOfSeen(r, evenOf(r, 6), d, at, 0)
				fails(t, "KindsFor", impl.ErrRange, got["KindsFor"])
				fails(t, "MayBe", impl.ErrRange, got["MayBe"])
			}
			for _, kind := range append(farNumbers(), -4, 4, 5, 7, 8) {
				fails(t, "MayBe", impl.ErrRange, callsOfSeen(r, evenOf(r, 6), d, impl.Place{}, kind)["MayBe"])
			}
		}
	}
}

// somePlaces makes a list of places of a roof, some of which come several times, with room behind them.
func somePlaces(r impl.Roof, n *numbers) []impl.Place {
	list := make([]impl.Place, 0, 30)
	for range n.below(20) {
		list = append(list, placesIn(r)[n.below(len(placesIn(r)))])
	}
	return list
}

// repairsFor has lists of places: none, all, all that are not whole, forward and back and twice, and some.
func repairsFor(r impl.Roof, n *numbers) [][]impl.Place {
	wrong := wrongIn(r)
	back := slices.Clone(wrong)
	slices.Reverse(back)
	return [][]impl.Place{nil, placesIn(r), wrong, back, slices.Concat(back, wrong), somePlaces(r, n), somePlaces(r, n), slices.Concat(back, somePlaces(r, n))}
}

func TestDripAfter(t *testing.T) {
	n := numbers(31)
	eachRain(func(r impl.Roof, w impl.Rain) {
		for _, list := range repairsFor(r, &n) {
			sum, code := impl.DripAfter(r, w, list)
			same(t, "drips", all(sum, code), all(dripsAfter(r, w, list), int64(0)))
		}
	})
}

func TestCheckRepairs(t *testing.T) {
	n := numbers(39)
	eachRain(func(r impl.Roof, w impl.Rain) {
		r = withWrong(r, &n, impl.MaxWrong)
		for _, list := range repairsFor(r, &n) {
			want := dripsAfter(r, w, list)
			for _, bound := range []int64{0, want - 1, want, want + 1, math.MaxInt64} {
				if bound >= 0 {
					is, code := impl.CheckRepairs(r, w, list, bound)
					same(t, "bound", all(is, code), all(want <= bound, int64(0)))
				}
			}
		}
	})
}

func TestNeedlessRepairs(t *testing.T) {
	n := numbers(32)
	for i, r := range sampleRoofs() {
		r = withWrong(r, &n, impl.MaxWrong)
		for _, w := range sampleRains(r)[i%3 : i%3+3] {
			for _, list := range repairsFor(r, &n) {
				sum := dripsAfter(r, w, list)
				for _, bound := range []int64{sum, sum + 1, sum + int64(n.below(100)), dripsOf(r, w), math.MaxInt64} {
					needless, code := impl.NeedlessRepairs(r, w, list, bound)
					if sum > bound {
						fails(t, "not kept", impl.ErrState, all(needless, code))
						continue
					}
					same(t, "code", code, int64(0))
					same(t, "needless", needless, needlessIn(r, w, list, bound))
				}
				if sum > 0 {
					needless, code := impl.NeedlessRepairs(r, w, list, sum-1)
					fails(t, "not kept", impl.ErrState, all(needless, code))
				}
			}
		}
	}
}

func TestNeedlessRepairsOfSeveral(t *testing.T) {
	r, w := leakyRoof(), evenOf(leakyRoof(), 6)
	first, last := impl.Place{}, impl.Place{Course: 1, Tile: 1}
	for _, c := range []struct {
		list  []impl.Place
		bound int64
		want  []int64
	}{
		{nil, 10, nil},
		{[]impl.Place{first, last}, 0, nil},
		{[]impl.Place{first, last}, 3, nil},
		{[]impl.Place{first, last}, 4, []int64{1}},
		{[]impl.Place{first, last}, 5, []int64{1}},
		{[]impl.Place{first, last}, 6, []int64{0, 1}},
		{[]impl.Place{first, last, first}, 0, []int64{0, 2}},
		{[]impl.Place{first, last, first}, 4, []int64{0, 1, 2}},
		{[]impl.Place{last, last, last}, 6, []int64{0, 1, 2}},
		{[]impl.Place{last, {Tile: 1}, first}, 0, []int64{1}},
		{[]impl.Place{{Course: 1}, {Tile: 1}}, 10, []int64{0, 1}},
	} {
		needless, code := impl.NeedlessRepairs(r, w, c.list, c.bound)
		same(t, "code", code, int64(0))
		same(t, fmt.Sprint("needless of ", c.list, " for ", c.bound), needless, c.want)
	}
	covered, w := roof("s-", "-o"), rainOf(0, 6, 0)
	needless, code := impl.NeedlessRepairs(covered, w, []impl.Place{{}, {Course: 1}}, 2)
	same(t, "without the gap mended the slipped tile has to stay", all(needless, code), all([]int64{0}, int64(0)))
}

func TestRangeOfRepairs(t *testing.T) {
	r, w := leakyRoof(), evenOf(leakyRoof(), 6)
	for _, bad := range append(badPlaces(), impl.Place{Course: 2}, impl.Place{Tile: 2}) {
		for _, list := range [][]impl.Place{{bad}, {{}, bad}, {bad, {}}, {{}, {}, {}, bad}} {
			for _, bound := range []int64{-1, 0, 10, math.MaxInt64} {
				got := callsOfRepairs(r, w, list, bound)
				for _, name := range []string{"DripAfter", "CheckRepairs", "NeedlessRepairs"} {
					fails(t, name, impl.ErrRange, got[name])
				}
			}
		}
	}
	for _, bound := range []int64{-1, -2, math.MinInt64} {
		for _, list := range [][]impl.Place{nil, {{}}, {{}, {Course: 1, Tile: 1}}} {
			got := callsOfRepairs(r, w, list, bound)
			for _, name := range []string{"CheckRepairs", "FewestRepairs", "NeedlessRepairs", "LeastDrip"} {
				fails(t, name, impl.ErrRange, got[name])
			}
		}
	}
	for _, many := range append(farNumbers(), -2, 11, 12, 17) {
		best, sum, code := impl.LeastDrip(r, w, many)
		fails(t, "LeastDrip", impl.ErrRange, all(best, sum, code))
	}
}

// wrongRoof is a roof of 8 by 2 tiles, so many of which are not whole, from the first one on.
func wrongRoof(many int, kind uint8) impl.Roof {
	r := impl.Roof{Wide: 8, High: 2}
	for _, at := range placesIn(r)[:many] {
		r.Tiles[at.Course][at.Tile] = kind
	}
	return r
}

// TestManyWrongTiles has as many tiles that are not whole as there can be, and one more.
func TestManyWrongTiles(t *testing.T) {
	for kind := uint8(1); kind < 4; kind++ {
		r := wrongRoof(impl.MaxWrong, kind)
		w := evenOf(r, 9)
		list, code := impl.FewestRepairs(r, w, 0)
		same(t, "all of them", all(list, code), all(wrongIn(r), int64(0)))
		best, sum, code := impl.LeastDrip(r, w, 10)
		same(t, "all of them", all(best, sum, code), all(wrongIn(r), int64(0), int64(0)))
		is, code := impl.CheckRepairs(r, w, wrongIn(r), 0)
		same(t, "all of them", all(is, code), all(true, int64(0)))
		is, code = impl.CheckRepairs(r, w, wrongIn(r)[1:], 0)
		same(t, "all but one", all(is, code), all(false, int64(0)))
		needless, code := impl.NeedlessRepairs(r, w, wrongIn(r), 0)
		same(t, "all of them", all(len(needless), code), all(0, int64(0)))
		needless, code = impl.NeedlessRepairs(r, w, wrongIn(r)[1:], 0)
		fails(t, "all but one", impl.ErrState, all(needless, code))
		r = wrongRoof(impl.MaxWrong+1, kind)
		for _, w := range []impl.Rain{w, {}} {
			tooManyWrong(t, r, w, nil)
			tooManyWrong(t, r, w, wrongIn(r))
			tooManyWrong(t, r, w, []impl.Place{{}})
			tooManyWrong(t, r, w, []impl.Place{{Course: 1, Tile: 7}})
		}
	}
}

// tooManyWrong asserts what the functions about repairs return for a roof with too many tiles that are not whole.
func tooManyWrong(t *testing.T, r impl.Roof, w impl.Rain, list []impl.Place) {
	t.Helper()
	limited := []string{"CheckRepairs", "FewestRepairs", "NeedlessRepairs", "LeastDrip"}
	for _, number := range []int64{0, 1, 10} {
		got := callsOfRepairs(r, w, list, number)
		same(t, "DripAfter has no limit", got["DripAfter"], all(dripsAfter(r, w, list), int64(0)))
		for _, name := range limited {
			fails(t, name, impl.ErrLimit, got[name])
		}
	}
	for name, got := range callsOfRepairs(r, w, list, math.MaxInt64) {
		if name != "DripAfter" && name != "LeastDrip" {
			fails(t, name+" with the greatest bound", impl.ErrLimit, got)
		}
	}
	for _, number := range []int64{-1, math.MinInt64} {
		got := callsOfRepairs(r, w, list, number)
		for _, name := range limited {
			fails(t, name+": number ahead of the limit", impl.ErrRange, got[name])
		}
	}
	best, sum, code := impl.LeastDrip(r, w, 11)
	fails(t, "LeastDrip: number ahead of the limit", impl.ErrRange, all(best, sum, code))
	got := callsOfRepairs(r, w, slices.Concat(list, []impl.Place{{Course: r.High}}), 10)
	for _, name := range []string{"DripAfter", "CheckRepairs", "NeedlessRepairs"} {
		fails(t, name+": place ahead of the limit", impl.ErrRange, got[name])
	}
}

// P1: TestTooManyWrongTiles has roofs of each size with more tiles that are not whole than there can be.
func TestTooManyWrongTiles(t *testing.T) {
	n := numbers(40)
	eachRain(func(r impl.Roof, w impl.Rain) {
		if len(wrongIn(r)) > impl.MaxWrong {
			tooManyWrong(t, r, w, somePlaces(r, &n))
		}
	})
}

// leastIn returns the first list, of at most so many tiles that are not whole, with the least drips, and these.
func leastIn(r impl.Roof, w impl.Rain, most int) ([]impl.Place, int64) {
	var best []impl.Place
	least := dripsOf(r, w)
	for _, list := range listsIn(wrongIn(r), most) {
		if sum := dripsAfter(r, w, list); sum < least {
			best, least = list, sum
		}
	}
	return best, least
}

func TestLeastDrip(t *testing.T) {
	for i, r := range sampleRoofs() {
		if len(wrongIn(r)) > impl.MaxWrong {
			continue
		}
		w := sampleRains(r)[i%6]
		for _, many := range []int{0, 1, 2, 3, 9, 10} {
			best, least := leastIn(r, w, many)
			list, sum, code := impl.LeastDrip(r, w, int64(many))
			same(t, "least", all(sum, code), all(least, int64(0)))
			same(t, "repairs for the least", list, best)
		}
	}
}

// TestFirstOfSeveralLeast has several lists with the least drips: a list comes ahead of those that it begins, but behind those that begin with an earlier place.
func TestFirstOfSeveralLeast(t *testing.T) {
	for _, c := range []struct {
		rows, rain string
		many       int64
		list       []impl.Place
		sum        int64
	}{
		{"xx-", "4 4 4 4 4", 0, nil, 8},
		{"xx-", "4 4 4 4 4", 1, []impl.Place{{}}, 4},
		{"xx-", "4 4 4 4 4", 2, []impl.Place{{}, {Tile: 1}}, 0},
		{"xx-", "4 4 0 0 4", 2, []impl.Place{{}}, 0},
		{"xx-", "0 0 4 4 4", 1, []impl.Place{{Tile: 1}}, 0},
		{"xx-", "0 0 4 4 4", 2, []impl.Place{{}, {Tile: 1}}, 0},
		{"xx-", "0 0 0 0 4", 2, nil, 0},
		{"..-", "4 4 4 4 4", 10, nil, 0},
		{"s- -o", "0 6 0", 1, nil, 2},
		{"s- -o", "0 6 0", 2, []impl.Place{{}, {Course: 1}}, 0},
		{"x- -o", "0 6 0", 1, []impl.Place{{Course: 1}}, 3},
	} {
		r := roof(strings.Fields(c.rows)...)
		w, _ := impl.ReadRain(r, c.rain)
		list, sum, code := impl.LeastDrip(r, w, c.many)
		same(t, c.rows+" with "+c.rain, all(sum, code), all(c.sum, int64(0)))
		same(t, c.rows+" with "+c.rain, list, c.list)
	}
}

func TestDripsText(t *testing.T) {
	eachRain(func(r impl.Roof, w impl.Rain) {
		drips := runningOf(r, w).drips
		var parts []string
		for course := range int(r.High) {
			for cell := range acrossOf(r) {
				if drip := drips[course][cell]; drip > 0 {
					parts = append(parts, fmt.Sprintf("%d:%d=%d", course, cell, drip))
				}
			}
		}
		want := strings.Join(parts, " ")
		same(t, "text", impl.DripsText(r, drips), want)
		read, code := impl.ReadDrips(r, want)
		same(t, "read", all(read, code), all(drips, int64(0)))
	})
}

// TestTextsOfDrips has no drips, drips below half tiles, more than can be, and one in each place of the greatest roof.
func TestTextsOfDrips(t *testing.T) {
	greatest := impl.Roof{Wide: 8, High: 8, Shift: 1}
	var full impl.Drips
	for course := range full {
		for cell := range full[course] {
			full[course][cell] = 1000
		}
	}
	for _, c := range []struct {
		r    impl.Roof
		d    impl.Drips
		text string
	}{
		{roof(".-"), impl.Drips{}, ""},
		{roof(".-"), impl.Drips{{0, 0, 7}}, "0:2=7"},
		{roof("-."), impl.Drips{{10, 0, 7}}, "0:0=10 0:2=7"},
		{roof(".-", "-."), impl.Drips{{1000}, {1000}}, "0:0=1000 1:0=1000"},
		{greatest, impl.Drips{7: {16: 1}}, "7:16=1"},
	} {
		same(t, "text", impl.DripsText(c.r, c.d), c.text)
		read, code := impl.ReadDrips(c.r, c.text)
		same(t, "read "+c.text, all(read, code), all(c.d, int64(0)))
	}
	text := impl.DripsText(greatest, full)
	same(t, "all places", strings.Count(text, " "), 8*17-1)
	read, code := impl.ReadDrips(greatest, text)
	same(t, "all places", all(read, code), all(full, int64(0)))
	read, code = impl.ReadDrips(greatest, text+" 7:16=1000")
	fails(t, "one more", impl.ErrSyntax, all(read, code))
	fails(t, "the places of another roof", impl.ErrSyntax, func() results { read, code := impl.ReadDrips(roof(".-"), text); return all(read, code) }())
}

func TestNoTextOfDrips(t *testing.T) {
	for _, r := range sampleRoofs() {
		for _, drip := range []int32{-1, 1001, math.MinInt32, math.MaxInt32, 1<<16 + 1} {
			same(t, "no text", impl.DripsText(r, impl.Drips{{drip}}), "")
			d := impl.Drips{{1}}
			d[r.High-1][acrossOf(r)-1] = drip
			same(t, "no text", impl.DripsText(r, d), "")
		}
		for course := range 8 {
			for cell := range 17 {
				d := impl.Drips{{1}}
				d[course][cell] = 2
				isCell := course < int(r.High) && cell < acrossOf(r)
				same(t, "text of places that are cells", impl.DripsText(r, d) != "", isCell)
			}
		}
	}
	for what, bad := range badRoofs() {
		same(t, "text with "+what, impl.DripsText(bad, impl.Drips{}), "")
		same(t, "text with "+what, impl.DripsText(bad, impl.Drips{{1}}), "")
	}
}

func TestTextsOfNoDrips(t *testing.T) {
	texts := []string{
		" ", "\n", "x", "0", ":", "=", ":=", "0:0", "0=1", "0:0=", "0:=1", ":0=1", "0=0:1", "0:0:0=1", "0:0=1=1", "0:0=1:1", "0 0=1", "0:0 =1", "0: 0=1", "0:0= 1",
		"0:1=1 0:0=1", "1:0=1 0:0=1", "1:4=1 1:3=1", "0:0=1 0:0=1", "0:0=1 0:0=2", "0:0=1 0:1=1 0:0=1",
		"0:0=0", "0:0=1 0:1=0", "0:0=00", "0:0=01", "00:0=1", "0:00=1", "0:01=1", "01:0=1", "0:0=+1", "0:0=-1", "+0:0=1", "-0:0=1", "0:+1=1", "0:-1=1", "-1:0=1", "0:0=-0",
		" 0:0=1", "0:0=1 ", "0:0=1  0:1=1", "0:0=1\n", "\n0:0=1", "0:0=1\n0:1=1", "0:0=1\t0:1=1", "0:0=1,0:1=1", "0:0=1\r",
		"2:0=1", "7:0=1", "8:0=1", "0:5=1", "0:16=1", "0:17=1", "256:0=1", "0:256=1", "4294967296:0=1", "18446744073709551616:0=1", "0:18446744073709551616=1",
		"0:0=1001", "0:0=65537", "0:0=4294967297", "0:0=18446744073709551617", "0:0=1.0", "0:0=0x1", "0:0=1_0", "0:0=1e2", "0:0=\u0661", "0:0=1\x00", "\xff:0=1", "0\u003a\u00a00=1",
		strings.Repeat("0:0=1 ", 150000), strings.Repeat(" ", 1000000), strings.Repeat("=", 1000000), strings.Repeat(":", 1000000), strings.Repeat("0", 1000000), "0:0=" + strings.Repeat("9", 999990), "0:0=" + strings.Repeat("0", 999990) + "1", strings.Repeat("\n", 1000000),
	}
	for _, text := range texts {
		for _, r := range []impl.Roof{leakyRoof(), roof("-..", "..-")} {
			d, code := impl.ReadDrips(r, text)
			fails(t, "text "+text[:min(len(text), 20)], impl.ErrSyntax, all(d, code))
		}
	}
	for what, bad := range badRoofs() {
		for _, text := range []string{"", "0:0=1", "x"} {
			d, code := impl.ReadDrips(bad, text)
			fails(t, "ReadDrips with "+what, impl.ErrInvalid, all(d, code))
		}
	}
}

// TestTextsOfDripsChanged puts each byte at each place of a text, and ahead of it: what is read has to have just this text.
func TestTextsOfDripsChanged(t *testing.T) {
	r, text := leakyRoof(), "0:0=3 0:1=1000 1:4=20"
	for i := range len(text) {
		for b := range 256 {
			for _, changed := range []string{text[:i] + string([]byte{byte(b)}) + text[i+1:], text[:i] + string([]byte{byte(b)}) + text[i:], text[:i] + text[i+1:]} {
				d, code := impl.ReadDrips(r, changed)
				if code == impl.OK {
					same(t, "text", impl.DripsText(r, d), changed)
				} else {
					fails(t, "changed text", impl.ErrSyntax, all(d, code))
				}
			}
		}
	}
}
