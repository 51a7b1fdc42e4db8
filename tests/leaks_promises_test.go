package tests

import (
	"fmt"
	"maps"
	"math"
	"slices"
	"strings"
	"testing"

	"loop.example/g01376/impl"
)

// everyLeakCall has the results of all functions of chapter 3 with a code.
func everyLeakCall(r impl.Roof, w impl.Rain, d impl.Drips, places []impl.Place, cases []impl.Roof, number int64) map[string]results {
	at := impl.Place{}
	if len(places) > 0 {
		at = places[0]
	}
	list := callsOfSeen(r, w, d, at, number)
	maps.Copy(list, callsOfRepairs(r, w, places, number))
	maps.Copy(list, callsOfCases(cases, w, number))
	read, code := impl.ReadDrips(r, impl.DripsText(r, d))
	list["ReadDrips"] = all(read, code)
	return list
}

// P1: a roof or rain that is not valid is refused ahead of all other errors, whatever the other arguments are.
func TestPromise1InvalidFirstInLeaks(t *testing.T) {
	refused := func(what string, r impl.Roof, w impl.Rain, d impl.Drips, at impl.Place, number int64) {
		t.Helper()
		for name, got := range callsOfSeen(r, w, d, at, number) {
			fails(t, name+" with "+what, impl.ErrInvalid, got)
		}
		for _, places := range [][]impl.Place{nil, {at}, {{}, at}} {
			for name, got := range callsOfRepairs(r, w, places, number) {
				fails(t, name+" with "+what, impl.ErrInvalid, got)
			}
		}
	}
	for _, number := range everyNumber() {
		for i, at := range append(badPlaces(), impl.Place{}) {
			d := []impl.Drips{{}, {{-1}}, {{1001}}, {7: {16: 1}}}[i%4]
			for what, bad := range badRoofs() {
				refused(what, bad, impl.Rain{}, d, at, number)
				refused(what, bad, rainOf(-1), d, at, number)
			}
			for _, r := range []impl.Roof{leakyRoof(), wrongRoof(11, impl.TiMissing), {Wide: 8, High: 8}} {
				for what, bad := range badRains(r) {
					refused(what, r, bad, d, at, number)
				}
			}
		}
	}
}

// P1: a roof that is not valid is refused wherever it is in a list, and so is rain that is not valid for one of them alone.
func TestPromise1InvalidFirstInCases(t *testing.T) {
	good, tall := leakyRoof(), impl.Roof{Wide: 3, High: 8}
	for what, bad := range badRoofs() {
		for _, cases := range [][]impl.Roof{{bad}, {good, bad}, {bad, good}, {good, tall, bad}, {good, good, good, tall, tall, tall, bad}, slices.Repeat([]impl.Roof{bad}, 7)} {
			for _, number := range everyNumber() {
				for name, got := range callsOfCases(cases, rainOf(1), number) {
					fails(t, name+" with "+what, impl.ErrInvalid, got)
				}
			}
		}
	}
	for what, bad := range badRains(good) {
		for _, cases := range [][]impl.Roof{{good}, {tall, good}, {good, tall}, slices.Repeat([]impl.Roof{good}, 7)} {
			groups, code := impl.GroupsOf(cases, bad)
			fails(t, "GroupsOf with "+what, impl.ErrInvalid, all(groups, code))
		}
	}
	groups, code := impl.GroupsOf([]impl.Roof{tall, good}, rainOf(1, 1, 1, 1, 1, 1, 1))
	fails(t, "rain that is valid for the first roof alone", impl.ErrInvalid, all(groups, code))
}

// P1: several errors at once: the first one, by the document's order, is returned.
func TestPromise1OrderOfErrorsInLeaks(t *testing.T) {
	r, bad, w := leakyRoof(), impl.Place{Course: 2}, evenOf(leakyRoof(), 6)
	unsound := impl.Drips{{7}}
	kinds, code := impl.KindsFor(r, w, unsound, bad)
	fails(t, "place ahead of drips", impl.ErrRange, all(kinds, code))
	may, code := impl.MayBe(r, w, unsound, bad, 0)
	fails(t, "place ahead of drips", impl.ErrRange, all(may, code))
	may, code = impl.MayBe(r, w, unsound, impl.Place{}, 4)
	fails(t, "kind ahead of drips", impl.ErrRange, all(may, code))
	may, code = impl.MayBe(r, w, unsound, impl.Place{}, 3)
	fails(t, "drips", impl.ErrState, all(may, code))
	for name, got := range callsOfSeen(r, w, impl.Drips{{5, 0, 0, 0, 7}}, impl.Place{}, 0) {
		fails(t, name+": drips ahead of no roof", impl.ErrState, got)
	}
	many := wrongRoof(11, impl.TiCracked)
	rain := evenOf(many, 6)
	list, code := impl.FewestRepairs(many, rain, -1)
	fails(t, "bound ahead of the limit", impl.ErrRange, all(list, code))
	is, code := impl.CheckRepairs(many, rain, nil, -1)
	fails(t, "bound ahead of the limit", impl.ErrRange, all(is, code))
	is, code = impl.CheckRepairs(many, rain, []impl.Place{bad}, 0)
	fails(t, "place ahead of the limit", impl.ErrRange, all(is, code))
	needless, code := impl.NeedlessRepairs(many, rain, nil, -1)
	fails(t, "bound ahead of the limit", impl.ErrRange, all(needless, code))
	needless, code = impl.NeedlessRepairs(many, rain, []impl.Place{bad}, 0)
	fails(t, "place ahead of the limit", impl.ErrRange, all(needless, code))
	needless, code = impl.NeedlessRepairs(many, rain, nil, 0)
	fails(t, "limit ahead of the state", impl.ErrLimit, all(needless, code))
	needless, code = impl.NeedlessRepairs(r, w, []impl.Place{bad}, 0)
	fails(t, "place ahead of the state", impl.ErrRange, all(needless, code))
	needless, code = impl.NeedlessRepairs(r, w, nil, -1)
	fails(t, "bound ahead of the state", impl.ErrRange, all(needless, code))
	needless, code = impl.NeedlessRepairs(r, w, nil, 9)
	fails(t, "state", impl.ErrState, all(needless, code))
	unlike := slices.Concat(slices.Repeat([]impl.Roof{r}, 6), []impl.Roof{roof("-..", "..-")})
	for number, want := range map[int64]int64{0: impl.ErrRange, 1001: impl.ErrRange, 1: impl.ErrLimit} {
		cell, groups, code := impl.BestCell(unlike, number)
		fails(t, "BestCell of too many that are unlike", want, all(cell, groups, code))
		cell, groups, code = impl.BestCell(nil, number)
		if want == impl.ErrLimit {
			want = impl.ErrNotFound
		}
		fails(t, "BestCell of none", want, all(cell, groups, code))
	}
	groups, code := impl.GroupsOf(unlike, w)
	fails(t, "limit ahead of the state", impl.ErrLimit, all(groups, code))
	groups, code = impl.GroupsOf(unlike[1:], w)
	fails(t, "state", impl.ErrState, all(groups, code))
	groups, code = impl.GroupsOf(nil, rainOf(-1))
	same(t, "no roofs, for which rain could be valid or not", all(len(groups), code), all(0, int64(0)))
}

// P1: every function returns, for numbers, places and drips of all kinds, with zero values beside an error.
func TestPromise1AllArgumentsOfLeaks(t *testing.T) {
	n := numbers(33)
	for i, r := range sampleRoofs() {
		for j, w := range sampleRains(r) {
			number := everyNumber()[(i+j)%len(everyNumber())]
			for _, d := range []impl.Drips{runningOf(r, w).drips, runningOf(frameOf(r), w).drips, {7: {16: -1}}, {{math.MaxInt32}, {math.MaxInt32}}} {
				places := append(somePlaces(r, &n), badPlaces()[i%10])[i%2:]
				for name, got := range everyLeakCall(r, w, d, places, []impl.Roof{r, frameOf(r)}, number) {
					if got.code() != impl.OK {
						fails(t, name, got.code(), got)
					}
				}
			}
		}
	}
}

// P1: every function returns for lists that are as long as they can be.
func TestPromise1LongLists(t *testing.T) {
	r := impl.Roof{Wide: 8, High: 8}
	for _, at := range placesIn(r)[:10] {
		r.Tiles[at.Course][at.Tile] = impl.TiCracked
	}
	w := evenOf(r, 1000)
	var list []impl.Place
	for len(list) < 300000 {
		list = append(list, placesIn(r)...)
	}
	got := callsOfRepairs(r, w, list, 0)
	same(t, "DripAfter", got["DripAfter"], all(int64(0), int64(0)))
	same(t, "CheckRepairs", got["CheckRepairs"], all(true, int64(0)))
	same(t, "NeedlessRepairs", len(got["NeedlessRepairs"][0].([]int64)), len(list))
	needless, code := impl.NeedlessRepairs(r, w, append(slices.Repeat([]impl.Place{{Tile: 1}}, 300000), wrongIn(r)[2:]...), 1000)
	same(t, "only one kept the bound", all(len(needless), code), all(300000, int64(0)))
	cases := slices.Repeat([]impl.Roof{r}, 10000)
	for name, got := range callsOfCases(cases, w, 1) {
		fails(t, name, impl.ErrLimit, got)
	}
}

// P1: equal arguments have equal results, those of a second call after a change of the first results, too.
func TestPromise1EqualResultsOfLeaks(t *testing.T) {
	n := numbers(34)
	for i, r := range sampleRoofs() {
		w := sampleRains(r)[i%6]
		d := runningOf(r, w).drips
		places, cases := somePlaces(r, &n), someCases(&n, n.below(6)+1)
		returnTheSame(t, r, func() map[string]results {
			list := everyLeakCall(r, w, d, places, cases, int64(i%4))
			maps.Copy(list, callsOfCases([]impl.Roof{r, frameOf(r), r}, w, int64(i+1)))
			maps.Copy(list, callsOfRepairs(r, w, nil, int64(i*50)))
			return list
		})
	}
}

// P1: no function changes a list, nor the room behind it.
func TestPromise1ListsAreKept(t *testing.T) {
	n := numbers(35)
	for i, r := range sampleRoofs() {
		places, cases := somePlaces(r, &n), append(make([]impl.Roof, 0, 9), r, frameOf(r), r)
		keptPlaces, keptCases := slices.Clone(places[:cap(places)]), slices.Clone(cases[:cap(cases)])
		w := sampleRains(r)[i%6]
		for _, number := range []int64{0, 1, 10, 1000, math.MaxInt64} {
			everyLeakCall(r, w, impl.Drips{}, places, cases, number)
		}
		same(t, "places", places[:cap(places)], keptPlaces)
		same(t, "roofs", cases[:cap(cases)], keptCases)
	}
}

// P6: the drips of small roofs: of all roofs there are, just those that have these drips explain them, and the functions tell of them.
func TestPromise6EveryRoof(t *testing.T) {
	eachSeen(6, 8, func(frame impl.Roof, w impl.Rain, s seen) {
		fewest := fewestIn(s.roofs)
		few, wrong, code := impl.FewestWrong(frame, w, s.drips)
		same(t, "fewest wrong", all(few, wrong, code), all(fewest, int64(len(wrongIn(fewest))), int64(0)))
		many, code := impl.CountRoofs(frame, w, s.drips)
		if len(s.roofs) > impl.MaxRoofs {
			fails(t, "too many roofs", impl.ErrLimit, all(many, code))
		} else {
			same(t, "roofs", all(many, code), all(int64(len(s.roofs)), int64(0)))
		}
		for _, at := range placesIn(frame) {
			bits := kindsIn(s.roofs, at)
			for kind := range int64(4) {
				may, code := impl.MayBe(frame, w, s.drips, at, kind)
				same(t, "may be", all(may, code), all(bits>>kind&1 == 1, int64(0)))
			}
			kinds, code := impl.KindsFor(frame, w, s.drips, at)
			same(t, "kinds of its cells, at least", all(kinds&bits, code), all(bits, int64(0)))
		}
		places, code := impl.SurelyWrong(frame, w, s.drips)
		same(t, "code", code, int64(0))
		same(t, "surely wrong", places, placesWhere(frame, func(at impl.Place) bool { return kindsIn(s.roofs, at)&1 == 0 }))
		places, code = impl.SurelyWhole(frame, w, s.drips)
		same(t, "code", code, int64(0))
		same(t, "surely whole", places, placesWhere(frame, func(at impl.Place) bool { return kindsIn(s.roofs, at) == 1 }))
	})
}

// noRoof asserts what the functions tell of drips that no roof explains.
func noRoof(t *testing.T, what string, r impl.Roof, w impl.Rain, d impl.Drips) {
	t.Helper()
	for _, at := range placesIn(r) {
		for kind := range int64(4) {
			for name, got := range callsOfSeen(r, w, d, at, kind) {
				switch name {
				case "FewestWrong", "SurelyWrong", "SurelyWhole":
					fails(t, name+" "+what, impl.ErrNotFound, got)
				case "CountRoofs":
					same(t, name+" "+what, got, all(int64(0), int64(0)))
				case "MayBe", "Explains":
					same(t, name+" "+what, got, all(false, int64(0)))
				default:
					same(t, name+" "+what, got.code(), int64(0))
				}
			}
		}
	}
}

// P6: drips of small roofs, one of which is changed, are explained if one of all roofs has them.
func TestPromise6ChangedDrips(t *testing.T) {
	n := numbers(36)
	for _, frame := range smallFrames(4) {
		for _, w := range smallRains(frame) {
			list := everySeen(frame, w)
			known := map[impl.Drips][]impl.Roof{}
			for _, s := range list {
				known[s.drips] = s.roofs
			}
			for range 20 {
				d := list[n.below(len(list))].drips
				course, cell := n.below(int(frame.High)), n.below(acrossOf(frame))
				// No course below may drip more than what is left.
				for below := course; below < int(frame.High); below++ {
					d[below][cell] = 0
				}
				comes := comesIn(frame, w, d)[course][cell]
				d[course][cell] = int32(n.below(int(comes) + 1))
				if len(known[d]) == 0 {
					noRoof(t, "of changed drips", frame, w, d)
					continue
				}
				many, code := impl.CountRoofs(frame, w, d)
				same(t, "roofs", all(many, code), all(int64(len(known[d])), int64(0)))
			}
		}
	}
}

// P6: the drips of a roof of any size are explained by it, and by the one that is told; tiles that are surely wrong are wrong.
func TestPromise6GreatRoofs(t *testing.T) {
	eachRain(func(r impl.Roof, w impl.Rain) {
		d, frame := runningOf(r, w).drips, frameOf(r)
		is, code := impl.Explains(r, w, d)
		same(t, "explained", all(is, code), all(true, int64(0)))
		few, wrong, code := impl.FewestWrong(frame, w, d)
		same(t, "drips of the one with the fewest", all(runningOf(few, w).drips, code), all(d, int64(0)))
		same(t, "its wrong tiles", wrong, int64(len(wrongIn(few))))
		same(t, "its frame", frameOf(few), frame)
		if int(wrong) > len(wrongIn(r)) {
			t.Errorf("%v has fewer wrong tiles than %v", r, few)
		}
		for _, at := range placesIn(r) {
			may, code := impl.MayBe(frame, w, d, at, kindIn(r, at))
			same(t, "may be as it is", all(may, code), all(true, int64(0)))
		}
		places, code := impl.SurelyWrong(frame, w, d)
		same(t, "as many as the fewest", all(int64(len(places)), code), all(wrong, int64(0)))
		for _, at := range places {
			same(t, "surely wrong", kindIn(r, at) != impl.TiWhole, true)
		}
		places, code = impl.SurelyWhole(frame, w, d)
		same(t, "code", code, int64(0))
		for _, at := range places {
			same(t, "surely whole", kindIn(r, at), int64(impl.TiWhole))
		}
		many, code := impl.CountRoofs(frame, w, d)
		if code == impl.OK && (many < 1 || many > impl.MaxRoofs) || code != impl.OK && code != impl.ErrLimit {
			t.Errorf("%v: %d roofs, and the code %d", r, many, code)
		}
	})
}

// P6: the edge cases: gaps below slipped tiles in one cell alone, cells without water, water of 1, half tiles, and several roofs with as few wrong tiles.
func TestPromise6EdgeCases(t *testing.T) {
	for _, c := range []struct {
		rain, drips, few string
		many             int64
	}{
		{"9 9 9 9 9", "0:0=3 0:1=3 1:2=9", "s.- -o.", 1},
		{"9 9 9 9 9", "0:2=3 0:3=3 1:1=9", ".s- -o.", 1},
		{"0 9 9 0 0", "0:1=3 1:2=9", "s.- -o.", 4},
		{"0 9 9 0 0", "0:1=3 0:2=3", "ss- -..", 8},
		{"0 9 9 0 0", "0:1=3 0:2=5", "sx- -..", 4},
		{"9 9 9 9 9", "0:0=3 0:1=3 0:2=3 0:3=3 1:4=9", "ss- -.o", 2},
		{"6 0 0", "0:0=3", "x-", 1},
		{"0 6 0", "0:1=2", "s-", 1},
		{"0 0 6", "", ".-", 4},
		{"0 0 0", "", ".-", 4},
		{"1 1 1", "0:0=1 0:1=1", "x-", 3},
		{"1 0 1", "0:0=1", "x-", 3},
		{"2 2 2", "0:0=1 0:1=1", "x-", 2},
		{"4 4 4", "0:0=2 0:1=2", "x-", 2},
		{"6 6 6", "0:1=2 0:2=2", "-s", 1},
		{"9 9 9", "0:1=9 0:2=9", "-o", 1},
		{"0 2 0", "0:1=1 1:1=1", "x- -x", 5},
		{"0 3 0", "0:1=1", "s- -.", 2},
		{"0 3 0", "0:1=1 2:1=2", "s- -. o-", 2},
		{"0 3 0", "0:1=1 1:1=1", "s- -x", 2},
		{"0 0 5", "1:2=5", ".- -o", 4},
		{"5 0 0", "1:0=5", "-. o-", 4},
		{"0 0 5", "", ".- -.", 4},
		{"0 9 0", "1:1=9", ".- -o", 1},
		{"0 9 9", "0:1=3 1:2=9", "s- -o", 1},
		{"0 2 2", "0:1=1 1:2=2", "s- -o", 1},
		{"0 2 2", "0:1=1 1:1=1 1:2=2", "x- -o", 1},
		{"2 2 2", "0:0=1 0:1=1 1:1=1 1:2=1", "x- -x", 4},
		{"1 2 1", "0:0=1 0:1=1 1:1=1 1:2=1", "x- -x", 5},
		{"0 4 1", "0:1=2 1:2=1", "s- -o", 1},
		{"0 4 0", "0:1=2 1:1=1", "x- -x", 4},
		{"0 5 2 2 5", "0:2=1 0:3=1 1:1=5 1:4=5", ".s- -oo", 1},
		{"0 5 2 2 5", "0:2=1 0:3=1 1:1=5 1:2=1 1:3=1 1:4=5", ".x- -oo", 1},
	} {
		want := roof(strings.Fields(c.few)...)
		frame := frameOf(want)
		w, _ := impl.ReadRain(frame, c.rain)
		d, code := impl.ReadDrips(frame, c.drips)
		same(t, c.drips, code, int64(0))
		few, wrong, code := impl.FewestWrong(frame, w, d)
		same(t, c.rain+" by "+c.drips, all(impl.RoofText(few), wrong, code), all(impl.RoofText(want), int64(len(wrongIn(want))), int64(0)))
		many, code := impl.CountRoofs(frame, w, d)
		same(t, c.rain+" by "+c.drips, all(many, code), all(c.many, int64(0)))
	}
}

// P6: drips that are sound, but that no roof has: by one tile alone, by half tiles, and by tiles that do not go together.
func TestPromise6NoRoof(t *testing.T) {
	for _, c := range []struct{ rows, rain, drips string }{
		{".-", "6 6 6", "0:0=3"},
		{".-", "6 6 6", "0:0=6"},
		{".-", "6 6 6", "0:0=3 0:1=2"},
		{".-", "6 6 6", "0:0=1 0:1=1"},
		{".-", "1000 0 0", "0:0=499"},
		{".-", "6 6 6", "0:2=3"},
		{"-.", "6 6 6", "0:0=6 0:1=6 0:2=6"},
		{"...-", "9 9 9 9 9 9 9", "0:6=9"},
		{".- -.", "6 6 6", "1:0=6"},
		{".- -.", "6 6 6", "1:1=6"},
		{".- -.", "0 6 6", "0:1=2 1:1=4 1:2=6"},
		{".- -.", "6 6 6", "0:0=3 0:1=3 1:1=3"},
		{".- -.", "6 6 6", "0:0=3 0:1=3 1:2=6"},
		{".- -.", "0 3 0", "0:1=1 1:1=2"},
		{"..- -..", "0 5 2 2 5", "0:2=1 0:3=1 1:1=5 1:3=1 1:4=5"},
	} {
		r := roof(strings.Fields(c.rows)...)
		w, code := impl.ReadRain(r, c.rain)
		same(t, "rain "+c.rain, code, int64(0))
		d, code := impl.ReadDrips(r, c.drips)
		same(t, "drips "+c.drips, code, int64(0))
		noRoof(t, "of "+c.drips, r, w, d)
	}
}

// P6: as many roofs as there can be, and more: the second drips have 504, the next number for which any have been found.
func TestPromise6ManyRoofs(t *testing.T) {
	r := impl.Roof{Wide: 6, High: 2}
	for _, c := range []struct {
		rain, drips string
		want        results
	}{
		{"0 2 0 5 0 2 0 5 0 2 0 0 5", "0:1=1 0:5=1 0:9=1 1:1=1 1:5=1 1:9=1", all(int64(500), int64(0))},
		{"5 0 2 2 0 5 0 1 5 1 0 0 2", "0:2=1 0:3=1 0:7=1 1:2=1 1:9=1 1:12=1", all(int64(0), int64(impl.ErrLimit))},
		{"0 0 0 0 0 0 0 0 0 0 0 0 0", "", all(int64(0), int64(impl.ErrLimit))},
	} {
		w, _ := impl.ReadRain(r, c.rain)
		d, code := impl.ReadDrips(r, c.drips)
		same(t, "drips", code, int64(0))
		many, code := impl.CountRoofs(r, w, d)
		same(t, c.rain+" by "+c.drips, all(many, code), c.want)
	}
	greatest := impl.Roof{Wide: 8, High: 8}
	many, code := impl.CountRoofs(greatest, impl.Rain{}, impl.Drips{})
	fails(t, "all roofs of 64 tiles", impl.ErrLimit, all(many, code))
	few, wrong, code := impl.FewestWrong(greatest, impl.Rain{}, impl.Drips{})
	same(t, "the whole one of them", all(few, wrong, code), all(greatest, int64(0), int64(0)))
}

// P6: invalid inputs of the functions about what has been seen.
func TestPromise6InvalidInputs(t *testing.T) {
	w := evenOf(leakyRoof(), 6)
	for what, bad := range badRoofs() {
		for name, got := range callsOfSeen(bad, w, leakyDrips(), impl.Place{}, 0) {
			fails(t, name+" with "+what, impl.ErrInvalid, got)
		}
	}
	for what, bad := range badRains(leakyRoof()) {
		for name, got := range callsOfSeen(leakyRoof(), bad, leakyDrips(), impl.Place{}, 0) {
			fails(t, name+" with "+what, impl.ErrInvalid, got)
		}
	}
	for what, bad := range unsoundDrips(leakyRoof(), w) {
		for name, got := range callsOfSeen(leakyRoof(), w, bad, impl.Place{}, 0) {
			fails(t, name+" with "+what, impl.ErrState, got)
		}
	}
}

// fewestRepairsIn returns the first one of the shortest lists of tiles that are not whole with which the bound is kept.
func fewestRepairsIn(r impl.Roof, w impl.Rain, bound int64) []impl.Place {
	lists := listsIn(wrongIn(r), impl.MaxWrong)
	slices.SortStableFunc(lists, func(a, b []impl.Place) int { return len(a) - len(b) })
	return lists[slices.IndexFunc(lists, func(list []impl.Place) bool { return dripsAfter(r, w, list) <= bound })]
}

// P7: no fewer repairs keep the bound, and no earlier ones that are as few.
func TestPromise7FewestRepairs(t *testing.T) {
	for i, r := range sampleRoofs() {
		if len(wrongIn(r)) > impl.MaxWrong {
			list, code := impl.FewestRepairs(r, sampleRains(r)[i%6], int64(i))
			fails(t, "too many wrong tiles", impl.ErrLimit, all(list, code))
			continue
		}
		w := sampleRains(r)[i%6]
		sum := dripsOf(r, w)
		for _, bound := range []int64{0, 1, sum / 3, sum / 2, sum - 1, sum, sum + 1, math.MaxInt64} {
			if bound < 0 {
				continue
			}
			list, code := impl.FewestRepairs(r, w, bound)
			same(t, "code", code, int64(0))
			same(t, "fewest", list, fewestRepairsIn(r, w, bound))
			kept, code := impl.CheckRepairs(r, w, list, bound)
			same(t, "the bound is kept", all(kept, code), all(true, int64(0)))
			needless, code := impl.NeedlessRepairs(r, w, list, bound)
			same(t, "none is needless", all(len(needless), code), all(0, int64(0)))
		}
	}
}

// P7: the edge cases: bounds of 0, and ones that are reached exactly, several lists that are as short, and repairs that make more drip.
func TestPromise7EdgeCases(t *testing.T) {
	for _, c := range []struct {
		rows, rain string
		bound      int64
		list       []impl.Place
	}{
		{"x.- -.s", "6 6 6 6 6", 10, nil},
		{"x.- -.s", "6 6 6 6 6", 9, []impl.Place{{}}},
		{"x.- -.s", "6 6 6 6 6", 6, []impl.Place{{}}},
		{"x.- -.s", "6 6 6 6 6", 4, []impl.Place{{}}},
		{"x.- -.s", "6 6 6 6 6", 3, []impl.Place{{}, {Course: 1, Tile: 1}}},
		{"x.- -.s", "6 6 6 6 6", 0, []impl.Place{{}, {Course: 1, Tile: 1}}},
		{"x.- -.s", "0 0 0 6 6", 0, []impl.Place{{Course: 1, Tile: 1}}},
		{"x.- -.s", "0 0 6 0 0", 0, nil},
		{"..- -..", "9 9 9 9 9", 0, nil},
		{"xxx-", "4 4 4 4 4 4 4", 8, []impl.Place{{}}},
		{"xxx-", "4 4 4 4 4 4 4", 4, []impl.Place{{}, {Tile: 1}}},
		{"xxx-", "4 4 4 4 8 8 4", 8, []impl.Place{{Tile: 2}}},
		{"xxx-", "4 4 4 4 8 8 4", 4, []impl.Place{{}, {Tile: 2}}},
		{"s- -o", "0 6 0", 1, []impl.Place{{}, {Course: 1}}},
		{"s- -o", "0 6 0", 2, nil},
		{"x- -o", "0 6 0", 5, []impl.Place{{Course: 1}}},
		{"o- -o", "0 6 0", 5, []impl.Place{{}, {Course: 1}}},
	} {
		r := roof(strings.Fields(c.rows)...)
		w, _ := impl.ReadRain(r, c.rain)
		list, code := impl.FewestRepairs(r, w, c.bound)
		same(t, "code", code, int64(0))
		same(t, fmt.Sprint(c.rows, " with ", c.rain, " for ", c.bound), list, c.list)
	}
}

// P7: roofs in different groups drip differently, and those in one group do not.
func TestPromise7Groups(t *testing.T) {
	n := numbers(37)
	for i := range 2000 {
		cases := someCases(&n, i%7)
		var w impl.Rain
		if len(cases) > 0 {
			w = sampleRains(cases[0])[n.below(6)]
		}
		groups, code := impl.GroupsOf(cases, w)
		same(t, "code", code, int64(0))
		same(t, "groups", groups, groupsIn(cases, w))
		for a := range cases {
			for b := range cases {
				one, _, _ := impl.RunDown(cases[a], w)
				two, _, _ := impl.RunDown(cases[b], w)
				same(t, "in one group with the same drips", groups[a] == groups[b], one == two)
			}
		}
	}
}

// P7: rain on no other cell makes more groups, and on no cell ahead of it as many.
func TestPromise7BestCell(t *testing.T) {
	n := numbers(38)
	for i := range 1000 {
		cases := someCases(&n, i%6+1)
		amount := []int64{1, 2, 3, 6, 999, 1000}[n.below(6)]
		var best, most int64
		for cell := range acrossOf(cases[0]) {
			var w impl.Rain
			w[cell] = int16(amount)
			if many := slices.Max(groupsIn(cases, w)) + 1; many > most {
				best, most = int64(cell), many
			}
		}
		cell, many, code := impl.BestCell(cases, amount)
		same(t, "best cell", all(cell, many, code), all(best, most, int64(0)))
	}
}

// P7: the edge cases of cases: none, one, as many as there can be, and one more; cells at both ends, and cells that tell nothing.
func TestPromise7EdgeCasesOfCases(t *testing.T) {
	whole, first, last := roof("..-", "-.."), roof("x.-", "-.."), roof("..-", "-.x")
	w := evenOf(whole, 6)
	for _, c := range []struct {
		cases  []impl.Roof
		groups []int64
		cell   int64
		many   int64
	}{
		{[]impl.Roof{whole}, []int64{0}, 0, 1},
		{[]impl.Roof{whole, whole}, []int64{0, 0}, 0, 1},
		{[]impl.Roof{whole, first}, []int64{0, 1}, 0, 2},
		{[]impl.Roof{last, whole, last}, []int64{0, 1, 0}, 3, 2},
		{[]impl.Roof{whole, first, last, first, whole, last}, []int64{0, 1, 2, 1, 0, 2}, 0, 2},
		{[]impl.Roof{roof("..-", "-x."), roof("o.-", "-x."), roof("s.-", "-x.")}, []int64{0, 1, 2}, 0, 3},
		{[]impl.Roof{whole, roof("x.-", "-.."), roof("s.-", "-.."), roof("o.-", "-.."), roof("o.-", "-o."), roof("o.-", "-oo")}, []int64{0, 1, 2, 3, 4, 5}, 0, 4},
	} {
		groups, code := impl.GroupsOf(c.cases, w)
		same(t, "groups", all(groups, code), all(c.groups, int64(0)))
		cell, many, code := impl.BestCell(c.cases, 6)
		same(t, "best cell", all(cell, many, code), all(c.cell, c.many, int64(0)))
	}
	groups, code := impl.GroupsOf(slices.Repeat([]impl.Roof{first, last}, 3), impl.Rain{})
	same(t, "no rain", all(groups, code), all(make([]int64, 6), int64(0)))
	cell, many, code := impl.BestCell([]impl.Roof{first, roof("s.-", "-..")}, 1)
	same(t, "rain of 1, which rounds up", all(cell, many, code), all(int64(0), int64(1), int64(0)))
	groups, code = impl.GroupsOf(nil, w)
	same(t, "none", all(len(groups), code), all(0, int64(0)))
	cell, many, code = impl.BestCell(nil, 6)
	fails(t, "none", impl.ErrNotFound, all(cell, many, code))
	for name, got := range callsOfCases(slices.Repeat([]impl.Roof{first}, impl.MaxCases+1), w, 6) {
		fails(t, name+" of one more", impl.ErrLimit, got)
	}
}

// P7: invalid inputs: roofs that are unlike, wherever they are, and amounts that are none.
func TestPromise7InvalidInputs(t *testing.T) {
	good := leakyRoof()
	for _, other := range []impl.Roof{{Wide: 1, High: 2}, {Wide: 3, High: 2}, {Wide: 2, High: 1}, {Wide: 2, High: 3}, {Wide: 2, High: 2, Shift: 1}} {
		for _, cases := range [][]impl.Roof{{good, other}, {other, good}, {good, good, good, good, good, other}, {good, other, good}} {
			for name, got := range callsOfCases(cases, rainOf(6, 6, 6), 6) {
				fails(t, name, impl.ErrState, got)
			}
		}
	}
	for _, amount := range append(farNumbers(), 0, -2, 1001, 1<<16+6, 1<<32+6) {
		if 1 <= amount && amount <= impl.MaxRain {
			continue
		}
		for _, cases := range [][]impl.Roof{nil, {good}, {good, {Wide: 1, High: 1}}, slices.Repeat([]impl.Roof{good}, 7)} {
			cell, many, code := impl.BestCell(cases, amount)
			fails(t, "BestCell", impl.ErrRange, all(cell, many, code))
		}
	}
	for _, bad := range []int64{-1, math.MinInt64} {
		list, code := impl.FewestRepairs(good, evenOf(good, 6), bad)
		fails(t, "FewestRepairs", impl.ErrRange, all(list, code))
	}
	for what, bad := range badRoofs() {
		list, code := impl.FewestRepairs(bad, impl.Rain{}, 0)
		fails(t, "FewestRepairs with "+what, impl.ErrInvalid, all(list, code))
	}
}
