package tests

import (
	"maps"
	"math"
	"reflect"
	"slices"
	"strings"
	"testing"

	"loop.example/g01376/impl"
)

// callsWithNumbers has the results of the other functions with a code that take a roof.
func callsWithNumbers(r, other impl.Roof, a, b int64) map[string]results {
	list := map[string]results{}
	shifted, code := impl.IsShifted(r, a)
	list["IsShifted"] = all(shifted, code)
	tile, code := impl.TileAt(r, a, b)
	list["TileAt"] = all(tile, code)
	mirror, code := impl.MirrorRoof(r)
	list["MirrorRoof"] = all(mirror, code)
	cut, code := impl.CutRoof(r, a, b)
	list["CutRoof"] = all(cut, code)
	stack, code := impl.StackRoofs(r, other)
	list["StackRoofs"] = all(stack, code)
	stack, code = impl.StackRoofs(other, r)
	list["StackRoofs of the other one"] = all(stack, code)
	mended, count, code := impl.MendAll(r)
	list["MendAll"] = all(mended, count, code)
	differ, code := impl.DifferIn(r, other)
	list["DifferIn"] = all(differ, code)
	differ, code = impl.DifferIn(other, r)
	list["DifferIn of the other one"] = all(differ, code)
	return list
}

// everyCall has the results of all functions that take a roof and have a code.
func everyCall(r, other impl.Roof, at impl.Place, a, b int64) map[string]results {
	list := callsWithNumbers(r, other, a, b)
	maps.Copy(list, callsWithPlace(r, at))
	for name, got := range callsWithKind(r, a) {
		list[name+" of a kind"] = got
	}
	return list
}

func everyNumber() []int64 {
	return append(farNumbers(), 0, 1, 2, 3, 4, 7, 8, 9, 16, 17)
}

// P1: a roof that is not valid is refused ahead of all other errors, whatever the other arguments are.
func TestPromise1InvalidFirst(t *testing.T) {
	for what, bad := range badRoofs() {
		for _, number := range everyNumber() {
			for _, at := range append(badPlaces(), impl.Place{}, impl.Place{Course: 2, Tile: 1}) {
				for _, other := range []impl.Roof{exampleRoof(), {Wide: 8, High: 8, Shift: 1}, bad, {}} {
					for name, got := range everyCall(bad, other, at, number, 1) {
						fails(t, name+" with "+what, impl.ErrInvalid, got)
					}
				}
			}
		}
	}
}

// P1: every function returns, for numbers and places of all kinds, with zero values beside an error.
func TestPromise1AllArguments(t *testing.T) {
	for i, r := range sampleRoofs() {
		at := badPlaces()[i%len(badPlaces())]
		if i%2 == 0 {
			at = impl.Place{Course: int8(i % 9), Tile: int8(i % 7)}
		}
		for j, a := range everyNumber() {
			b := everyNumber()[(i+j)%len(everyNumber())]
			for name, got := range everyCall(r, exampleRoof(), at, a, b) {
				if got.code() != impl.OK {
					fails(t, name, got.code(), got)
				}
			}
		}
	}
}

// P1: equal arguments have equal results, those of a second call after a change of the first results, too.
func TestPromise1EqualResults(t *testing.T) {
	for i, r := range sampleRoofs() {
		at := placesIn(r)[i%len(placesIn(r))]
		kind := int64(i % 4)
		returnTheSame(t, r, func() map[string]results { return everyCall(r, exampleRoof(), at, kind, 1) })
	}
}

// returnTheSame asserts that calls return the same results again, also behind a change of the first ones.
func returnTheSame(t *testing.T, of any, calls func() map[string]results) {
	t.Helper()
	first, kept := calls(), calls()
	if !reflect.DeepEqual(first, kept) {
		t.Fatalf("%v: got %v, then %v", of, first, kept)
	}
	for _, got := range first {
		spoil(got)
	}
	if again := calls(); !reflect.DeepEqual(again, kept) {
		t.Fatalf("%v: got %v, then %v", of, kept, again)
	}
}

// spoil writes over all slices of results, and over the room behind them.
func spoil(got results) {
	for _, x := range got {
		switch list := x.(type) {
		case []int64:
			fill(list, -77)
		case [][]int64:
			fillEach(list, -77)
		case []impl.Place:
			fill(list, noPlace)
		case [][]impl.Place:
			fillEach(list, noPlace)
		case []impl.Piece:
			fill(list, impl.Piece{Hand: -77, Wide: -77})
		case impl.Shape:
			fill(list.Courses, impl.Span{Left: -77, Right: -77})
		case impl.Gutter:
			fill(list.Pipes, impl.Pipe{At: -77, Takes: -77})
		}
	}
}

var noPlace = impl.Place{Course: -77, Tile: -77}

// fill writes over a slice, and over the room behind it.
func fill[T any](list []T, with T) {
	list = list[:cap(list)]
	for i := range list {
		list[i] = with
	}
}

func fillEach[T any](lists [][]T, with T) {
	for i, list := range lists {
		fill(list, with)
		lists[i] = nil
	}
}

// P1: no two patches of one result share memory, nor the room behind it.
func TestPromise1PatchesAreApart(t *testing.T) {
	for _, r := range sampleRoofs() {
		for kind := range int64(4) {
			want, _ := impl.PatchesOf(r, kind)
			for i := range want {
				got, _ := impl.PatchesOf(r, kind)
				fill(got[i], noPlace)
				for j := range got {
					if j != i {
						same(t, "patch beside one that is changed", got[j], want[j])
					}
				}
			}
		}
	}
}

// P1: texts and roofs without a code.
func TestPromise1WithoutCodes(t *testing.T) {
	for _, r := range sampleRoofs() {
		same(t, "text", impl.RoofText(r), impl.RoofText(r))
		same(t, "valid", impl.ValidRoof(r), true)
		same(t, "same", impl.SameRoof(r, r), true)
		a, one := impl.ReadRoof(impl.RoofText(r))
		b, two := impl.ReadRoof(strings.Clone(impl.RoofText(r)))
		same(t, "read", all(a, one), all(b, two))
	}
	for _, n := range everyNumber() {
		a, one := impl.WholeRoof(n, n, n)
		b, two := impl.WholeRoof(n, n, n)
		same(t, "whole", all(a, one), all(b, two))
		same(t, "name", impl.CodeName(n), impl.CodeName(n))
	}
}

// patchesIn spreads the least number of a patch until nothing changes: patches without the help of the program.
func patchesIn(r impl.Roof, kind int64) [][]impl.Place {
	list := placesWhere(r, func(at impl.Place) bool { return kindIn(r, at) == kind })
	number := make([]int, len(list))
	for i := range list {
		number[i] = i
	}
	for changed := true; changed; {
		changed = false
		for i := range list {
			for j := range list {
				if number[j] < number[i] && areBeside(r, list[i], list[j]) {
					number[i] = number[j]
					changed = true
				}
			}
		}
	}
	var patches [][]impl.Place
	for i := range list {
		var patch []impl.Place
		for j := range list {
			if number[j] == i {
				patch = append(patch, list[j])
			}
		}
		if len(patch) > 0 {
			patches = append(patches, patch)
		}
	}
	return patches
}

// P2: patches have all tiles of a kind, each one once.
func TestPromise2EachTileOnce(t *testing.T) {
	for _, r := range sampleRoofs() {
		for kind := range int64(4) {
			patches, code := impl.PatchesOf(r, kind)
			same(t, "code", code, int64(0))
			joined := slices.Concat(patches...)
			slices.SortFunc(joined, func(a, b impl.Place) int {
				if comesBefore(a, b) {
					return -1
				}
				return 1
			})
			same(t, "all tiles of a kind", joined, placesWhere(r, func(at impl.Place) bool { return kindIn(r, at) == kind }))
		}
	}
}

// P2: patches are those of the document, in its order, and PatchOf returns the same ones.
func TestPromise2Patches(t *testing.T) {
	for _, r := range sampleRoofs() {
		for kind := range int64(4) {
			want := patchesIn(r, kind)
			patches, code := impl.PatchesOf(r, kind)
			same(t, "code", code, int64(0))
			same(t, "patches", patches, want)
			for _, patch := range want {
				for _, at := range patch {
					got, code := impl.PatchOf(r, at)
					same(t, "patch of a tile", all(got, code), all(patch, int64(0)))
				}
			}
		}
	}
}

// P2: the edge cases: one tile, kinds that are not there, the greatest roof, and patches that only half tiles keep apart.
func TestPromise2EdgeCases(t *testing.T) {
	for _, r := range []impl.Roof{roof("s-"), roof("-s")} {
		patches, code := impl.PatchesOf(r, impl.TiSlipped)
		same(t, "one tile", all(patches, code), all([][]impl.Place{{{}}}, int64(0)))
		patches, code = impl.PatchesOf(r, impl.TiWhole)
		same(t, "none", len(patches), 0)
		same(t, "code", code, int64(0))
	}
	for shift := range uint8(2) {
		r := impl.Roof{Wide: 8, High: 8, Shift: shift}
		patches, code := impl.PatchesOf(r, impl.TiWhole)
		same(t, "all tiles", all(patches, code), all([][]impl.Place{placesIn(r)}, int64(0)))
	}
	patches, _ := impl.PatchesOf(roof("x.-", "-.x", "x.-"), impl.TiCracked)
	same(t, "apart", patches, [][]impl.Place{{{}}, {{Course: 1, Tile: 1}}, {{Course: 2}}})
	patches, _ = impl.PatchesOf(roof("-x.", ".x-", "-x."), impl.TiCracked)
	same(t, "together", patches, [][]impl.Place{{{}, {Course: 1, Tile: 1}, {Course: 2}}})
	patch, _ := impl.PatchOf(roof("x.x-", "-x.x", "xxx-"), impl.Place{Tile: 2})
	same(t, "around", patch, []impl.Place{{}, {Tile: 2}, {Course: 1}, {Course: 1, Tile: 2}, {Course: 2}, {Course: 2, Tile: 1}, {Course: 2, Tile: 2}})
}

// P3: a tile laps over those that it is above of, and these have a cell in common with it, in the next course.
func TestPromise3Laps(t *testing.T) {
	for _, r := range sampleRoofs() {
		for _, at := range placesIn(r) {
			above, code := impl.AboveOf(r, at)
			same(t, "code", code, int64(0))
			same(t, "above", above, placesWhere(r, func(other impl.Place) bool { return lapsOver(r, other, at) }))
			below, code := impl.BelowOf(r, at)
			same(t, "code", code, int64(0))
			same(t, "below", below, placesWhere(r, func(other impl.Place) bool { return lapsOver(r, at, other) }))
			for _, other := range below {
				list, _ := impl.AboveOf(r, other)
				same(t, "above of one below", slices.Contains(list, at), true)
				sharesCell(t, r, at, other)
			}
			for _, other := range above {
				list, _ := impl.BelowOf(r, other)
				same(t, "below of one above", slices.Contains(list, at), true)
				sharesCell(t, r, other, at)
			}
		}
	}
}

func sharesCell(t *testing.T, r impl.Roof, a, b impl.Place) {
	t.Helper()
	one, _ := impl.CellsOf(r, a)
	two, _ := impl.CellsOf(r, b)
	same(t, "a common cell", one[0] == two[1] || one[1] == two[0], true)
}

// P3: the edge cases: one tile, tiles at both ends, beside half tiles, and the first and the last course.
func TestPromise3EdgeCases(t *testing.T) {
	for _, r := range []impl.Roof{roof(".-"), roof("-.")} {
		above, one := impl.AboveOf(r, impl.Place{})
		below, two := impl.BelowOf(r, impl.Place{})
		same(t, "one tile", all(len(above), one, len(below), two), all(0, int64(0), 0, int64(0)))
	}
	for _, r := range []impl.Roof{roof(".-", "-."), roof("-.", ".-")} {
		below, _ := impl.BelowOf(r, impl.Place{})
		above, _ := impl.AboveOf(r, impl.Place{Course: 1})
		same(t, "two tiles", all(below, above), all([]impl.Place{{Course: 1}}, []impl.Place{{}}))
	}
	r := impl.Roof{Wide: 8, High: 8}
	below, _ := impl.BelowOf(r, impl.Place{Course: 6, Tile: 7})
	same(t, "right end, not shifted", below, []impl.Place{{Course: 7, Tile: 6}, {Course: 7, Tile: 7}})
	below, _ = impl.BelowOf(r, impl.Place{Course: 5, Tile: 7})
	same(t, "right end, shifted", below, []impl.Place{{Course: 6, Tile: 7}})
	above, _ := impl.AboveOf(r, impl.Place{Course: 7})
	same(t, "left end, shifted", above, []impl.Place{{Course: 6}, {Course: 6, Tile: 1}})
	above, _ = impl.AboveOf(r, impl.Place{Course: 6})
	same(t, "left end, not shifted", above, []impl.Place{{Course: 5}})
	last, _ := impl.BelowOf(r, impl.Place{Course: 7, Tile: 3})
	first, _ := impl.AboveOf(r, impl.Place{Tile: 3})
	same(t, "ends of the roof", all(len(last), len(first)), all(0, 0))
}

// P2 and P3: invalid inputs.
func TestPromises2And3InvalidInputs(t *testing.T) {
	numbers := []int64{4, -1, 256, math.MaxInt64, math.MinInt64}
	for _, kind := range numbers {
		patches, code := impl.PatchesOf(exampleRoof(), kind)
		fails(t, "PatchesOf", impl.ErrRange, all(patches, code))
	}
	for _, at := range append(badPlaces(), impl.Place{Course: 3}, impl.Place{Tile: 2}) {
		for _, name := range []string{"PatchOf", "AboveOf", "BelowOf"} {
			fails(t, name, impl.ErrRange, callsWithPlace(exampleRoof(), at)[name])
		}
	}
	for what, bad := range badRoofs() {
		patches, code := impl.PatchesOf(bad, 0)
		fails(t, "PatchesOf with "+what, impl.ErrInvalid, all(patches, code))
		for _, name := range []string{"PatchOf", "AboveOf", "BelowOf"} {
			fails(t, name+" with "+what, impl.ErrInvalid, callsWithPlace(bad, impl.Place{})[name])
		}
	}
}
