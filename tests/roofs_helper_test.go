package tests

import (
	"math"
	"reflect"
	"strings"
	"testing"

	"loop.example/g01376/impl"
)

const marks = ".xso"

// roof builds a roof from the rows of its text, without the help of the program.
func roof(rows ...string) impl.Roof {
	r := impl.Roof{Wide: int8(len(rows[0]) - 1), High: int8(len(rows))}
	if rows[0][0] == '-' {
		r.Shift = 1
	}
	for c, row := range rows {
		for k, mark := range strings.Trim(row, "-") {
			r.Tiles[c][k] = uint8(strings.IndexRune(marks, mark))
		}
	}
	return r
}

// exampleRoof is that of the example of chapter 1.
func exampleRoof() impl.Roof {
	return roof("x.-", "-xo", "..-")
}

// numbers makes numbers that follow from the first one.
type numbers uint64

func (n *numbers) below(bound int) int {
	*n = *n*6364136223846793005 + 1442695040888963407
	return int(uint64(*n) >> 33 % uint64(bound))
}

// sampleRoofs has roofs of each size and shift, with one kind, with two kinds, and with all of them.
func sampleRoofs() []impl.Roof {
	var list []impl.Roof
	n := numbers(1)
	for wide := range int8(8) {
		for high := range int8(8) {
			for shift := range uint8(2) {
				for kinds := 1; kinds <= 4; kinds++ {
					r := impl.Roof{Wide: wide + 1, High: high + 1, Shift: shift}
					for _, at := range placesIn(r) {
						r.Tiles[at.Course][at.Tile] = uint8(n.below(kinds))
					}
					list = append(list, r)
				}
			}
		}
	}
	return list
}

// badRoofs has roofs that are not valid, by what is wrong with them.
func badRoofs() map[string]impl.Roof {
	change := func(f func(r *impl.Roof)) impl.Roof {
		r := exampleRoof()
		f(&r)
		return r
	}
	return map[string]impl.Roof{
		"nothing":           {},
		"wide 0":            {High: 1},
		"wide 9":            {Wide: 9, High: 1},
		"wide -1":           change(func(r *impl.Roof) { r.Wide = -1 }),
		"wide 127":          change(func(r *impl.Roof) { r.Wide = math.MaxInt8 }),
		"wide -128":         change(func(r *impl.Roof) { r.Wide = math.MinInt8 }),
		"high 0":            {Wide: 1},
		"high 9":            {Wide: 1, High: 9},
		"high -1":           change(func(r *impl.Roof) { r.High = -1 }),
		"high 127":          change(func(r *impl.Roof) { r.High = math.MaxInt8 }),
		"high -128":         change(func(r *impl.Roof) { r.High = math.MinInt8 }),
		"shift 2":           change(func(r *impl.Roof) { r.Shift = 2 }),
		"shift 255":         change(func(r *impl.Roof) { r.Shift = math.MaxUint8 }),
		"kind 4":            change(func(r *impl.Roof) { r.Tiles[2][1] = 4 }),
		"kind 255":          change(func(r *impl.Roof) { r.Tiles[0][0] = math.MaxUint8 }),
		"kind to the right": change(func(r *impl.Roof) { r.Tiles[0][2] = impl.TiCracked }),
		"kind far right":    change(func(r *impl.Roof) { r.Tiles[2][7] = impl.TiMissing }),
		"kind below":        change(func(r *impl.Roof) { r.Tiles[3][0] = impl.TiSlipped }),
		"kind far below":    change(func(r *impl.Roof) { r.Tiles[7][7] = impl.TiCracked }),
		"kind of no kind":   change(func(r *impl.Roof) { r.Tiles[5][5] = 77 }),
	}
}

// badPlaces has places that are not on any roof.
func badPlaces() []impl.Place {
	return []impl.Place{{Course: -1}, {Tile: -1}, {Course: 8}, {Tile: 8}, {Course: -1, Tile: -1}, {Course: 127}, {Tile: 127}, {Course: -128}, {Tile: -128}, {Course: 127, Tile: -128}}
}

// farNumbers has numbers that are no course, cell, kind or size of any roof, some of which would be if they were cut to fewer bits.
func farNumbers() []int64 {
	return []int64{math.MinInt64, math.MinInt64 + 1, -1 << 32, -257, -256, -255, -128, -1, 18, 127, 128, 255, 256, 257, 258, 259, 1 << 16, 1<<32 + 1, 1 << 40, math.MaxInt64 - 1, math.MaxInt64}
}

func placesIn(r impl.Roof) []impl.Place {
	var list []impl.Place
	for c := range r.High {
		for k := range r.Wide {
			list = append(list, impl.Place{Course: c, Tile: k})
		}
	}
	return list
}

func kindIn(r impl.Roof, at impl.Place) int64 {
	return int64(r.Tiles[at.Course][at.Tile])
}

// shiftedIn alternates from the first course on.
func shiftedIn(r impl.Roof, course int64) bool {
	shifted := r.Shift == 1
	for range course {
		shifted = !shifted
	}
	return shifted
}

// firstCell returns where a tile begins, in cells.
func firstCell(r impl.Roof, at impl.Place) int64 {
	if shiftedIn(r, int64(at.Course)) {
		return 2*int64(at.Tile) + 1
	}
	return 2 * int64(at.Tile)
}

// lapsOver reports whether a lies in the course above b, and less than a tile away from it.
func lapsOver(r impl.Roof, a, b impl.Place) bool {
	apart := firstCell(r, a) - firstCell(r, b)
	return a.Course+1 == b.Course && -2 < apart && apart < 2
}

func areBeside(r impl.Roof, a, b impl.Place) bool {
	if a.Course == b.Course {
		return a.Tile == b.Tile+1 || b.Tile == a.Tile+1
	}
	return lapsOver(r, a, b) || lapsOver(r, b, a)
}

// comesBefore tells the order of places.
func comesBefore(a, b impl.Place) bool {
	return a.Course < b.Course || a.Course == b.Course && a.Tile < b.Tile
}

// placesWhere returns the places for which a function is true, ordered.
func placesWhere(r impl.Roof, f func(at impl.Place) bool) []impl.Place {
	var list []impl.Place
	for _, at := range placesIn(r) {
		if f(at) {
			list = append(list, at)
		}
	}
	return list
}

// same compares what a call returned with what it has to return; nil slices and empty ones are equivalent.
func same(t *testing.T, name string, got, want any) {
	t.Helper()
	g, w := reflect.ValueOf(got), reflect.ValueOf(want)
	if g.Kind() == reflect.Slice && w.Kind() == reflect.Slice && g.Len() == 0 && w.Len() == 0 {
		return
	}
	if !reflect.DeepEqual(got, want) {
		t.Errorf("%s: got %v, want %v", name, got, want)
	}
}

// results are all results of a call; the code is the last one.
type results []any

func all(list ...any) results {
	return list
}

func (r results) code() int64 {
	return r[len(r)-1].(int64)
}

// isNothing reports whether all results but the code are zero values.
func (r results) isNothing() bool {
	for _, x := range r[:len(r)-1] {
		v := reflect.ValueOf(x)
		if v.Kind() == reflect.Slice && v.Len() > 0 || v.Kind() != reflect.Slice && !v.IsZero() {
			return false
		}
	}
	return true
}

// fails asserts that a call returned a code and nothing else.
func fails(t *testing.T, name string, code int64, got results) {
	t.Helper()
	if got.code() != code || !got.isNothing() {
		t.Errorf("%s: got %v, want zero values and the code %d", name, got, code)
	}
}
