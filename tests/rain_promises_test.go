package tests

import (
	"maps"
	"reflect"
	"strings"
	"testing"

	"loop.example/g01376/impl"
)

// P1: a roof or rain that is not valid is refused ahead of all other errors, whatever the other arguments are.
func TestPromise1InvalidFirstInRain(t *testing.T) {
	refused := func(what string, calls map[string]results) {
		t.Helper()
		for name, got := range calls {
			fails(t, name+" with "+what, impl.ErrInvalid, got)
		}
	}
	for _, number := range everyNumber() {
		for _, at := range append(badPlaces(), impl.Place{}, impl.Place{Course: 2, Tile: 1}) {
			for what, bad := range badRoofs() {
				refused(what, callsWithRain(bad, impl.Rain{}, at, number))
				refused(what, callsWithRain(bad, rainOf(-1), at, number))
				refused(what, callsForRain(bad, number, "7 7 7 7 7"))
				refused(what, callsForRain(bad, number, "x"))
			}
			for _, r := range []impl.Roof{rainyRoof(), roof("..-"), {Wide: 8, High: 8}} {
				for what, bad := range badRains(r) {
					refused(what, callsWithRain(r, bad, at, number))
				}
			}
		}
	}
}

// P1: there is no text of a roof or rain that is not valid.
func TestPromise1NoTextOfInvalidRain(t *testing.T) {
	for what, bad := range badRoofs() {
		same(t, "text with "+what, impl.RainText(bad, impl.Rain{}), "")
		same(t, "text with "+what, impl.RainText(bad, rainOf(7, 7, 7, 7, 7)), "")
	}
	for _, r := range sampleRoofs() {
		for what, bad := range badRains(r) {
			same(t, "text with "+what, impl.RainText(r, bad), "")
		}
	}
}

// P1: every function returns, for numbers, places and texts of all kinds, with zero values beside an error.
func TestPromise1AllArgumentsOfRain(t *testing.T) {
	texts := []string{"", "7 7 7", "7 7 7 7 7", "7 7 7 7 7\n", "1 1 1 1 1 1 1 1 1 1 1 1 1 1 1 1 1"}
	for i, r := range sampleRoofs() {
		at := badPlaces()[i%len(badPlaces())]
		if i%2 == 0 {
			at = impl.Place{Course: int8(i % 9), Tile: int8(i % 7)}
		}
		for j, w := range sampleRains(r) {
			number := everyNumber()[(i+j)%len(everyNumber())]
			calls := callsWithRain(r, w, at, number)
			maps.Copy(calls, callsForRain(r, number, texts[(i+j)%len(texts)]))
			for name, got := range calls {
				if got.code() != impl.OK {
					fails(t, name, got.code(), got)
				}
			}
		}
	}
}

// P1: equal arguments have equal results, those of a second call after a change of the first results, too.
func TestPromise1EqualResultsOfRain(t *testing.T) {
	for i, r := range sampleRoofs() {
		at := placesIn(r)[i%len(placesIn(r))]
		w := sampleRains(r)[i%6]
		number := int64(i%50 + 1)
		returnTheSame(t, r, func() map[string]results {
			list := callsWithRain(r, w, at, number)
			maps.Copy(list, callsForRain(r, number, impl.RainText(r, w)))
			return list
		})
	}
}

// P1: calls that go on at once return what each one returns alone.
func TestPromise1CallsAtOnce(t *testing.T) {
	list := sampleRoofs()[100:108]
	got := make([]map[string]results, len(list))
	done := make(chan bool)
	for i, r := range list {
		go func() {
			got[i] = callsWithRain(r, evenOf(r, 99), impl.Place{}, 5)
			done <- true
		}()
	}
	for range list {
		<-done
	}
	for i, r := range list {
		if want := callsWithRain(r, evenOf(r, 99), impl.Place{}, 5); !reflect.DeepEqual(got[i], want) {
			t.Errorf("%v: got %v, want %v", r, got[i], want)
		}
	}
}

// P4: rain is what comes to the gutter, and what drips, in all and in each cell.
func TestPromise4RainIsKept(t *testing.T) {
	eachRain(func(r impl.Roof, w impl.Rain) {
		drips, gutter, code := impl.RunDown(r, w)
		same(t, "code", code, int64(0))
		same(t, "cells of the gutter", len(gutter), acrossOf(r))
		var sum int64
		for cell, rest := range gutter {
			inCell := sumOf(drips, func(course, other int) bool { return other == cell })
			same(t, "rain in a cell", rest+inCell, int64(w[cell]))
			sum += rest + inCell
		}
		rain, _ := impl.RainSum(r, w)
		same(t, "rain", sum, rain)
		dripSum, _ := impl.DripSum(r, w)
		same(t, "what drips in places of the roof alone", dripSum, sumOf(drips, func(course, cell int) bool { return course < int(r.High) && cell < acrossOf(r) }))
	})
}

// P4: more rain drips no less, in no place, and no less comes to the gutter.
func TestPromise4MoreRain(t *testing.T) {
	n := numbers(4)
	eachRain(func(r impl.Roof, w impl.Rain) {
		more := w
		for cell := range acrossOf(r) {
			more[cell] += int16(n.below(3))
			more[cell] = min(more[cell], 1000)
		}
		less, lessGutter, _ := impl.RunDown(r, w)
		drips, gutter, _ := impl.RunDown(r, more)
		for course := range drips {
			for cell := range drips[course] {
				same(t, "drips no less", drips[course][cell] >= less[course][cell], true)
			}
		}
		for cell := range gutter {
			same(t, "comes no less", gutter[cell] >= lessGutter[cell], true)
		}
		a, _ := impl.DripSum(r, w)
		b, _ := impl.DripSum(r, more)
		same(t, "no less in all", b >= a, true)
	})
}

// P4: a roof of whole tiles does not drip.
func TestPromise4WholeRoofs(t *testing.T) {
	eachRain(func(r impl.Roof, w impl.Rain) {
		r = impl.Roof{Wide: r.Wide, High: r.High, Shift: r.Shift}
		drips, gutter, code := impl.RunDown(r, w)
		same(t, "drips", all(drips, code), all(impl.Drips{}, int64(0)))
		for cell, rest := range gutter {
			same(t, "gutter", rest, int64(w[cell]))
		}
		_, _, code = impl.FirstDrip(r, w)
		same(t, "first drip", code, int64(impl.ErrNotFound))
	})
}

// P4: the edge cases: half tiles, gaps below slipped tiles, what is rounded up, nothing, and as much as there can be.
func TestPromise4EdgeCases(t *testing.T) {
	for _, c := range []struct {
		rows, rain string
		drips      int64
	}{
		{"x-", "0 0 1000", 0},
		{"-x", "1000 0 0", 0},
		{"-o", "1000 1 1", 2},
		{"x-", "1 1 1", 2},
		{"s-", "1 2 1", 2},
		{"s-", "4 5 6", 4},
		{"x-", "1000 999 0", 1000},
		{"s-", "1000 999 998", 667},
		{"s- -o", "0 3 0", 1},
		{"s- -o", "0 0 3", 3},
		{"x- -o", "0 3 0", 3},
		{"s- -o o-", "0 3 0", 3},
		{"x- -x x- -x x- -x x- -x", "0 1000 0", 997},
		{"o- -o o- -o o- -o o- -o", "1000 1000 1000", 3000},
	} {
		r := roof(strings.Fields(c.rows)...)
		w, code := impl.ReadRain(r, c.rain)
		same(t, "rain "+c.rain, code, int64(0))
		sum, code := impl.DripSum(r, w)
		same(t, c.rows+" with "+c.rain, all(sum, code), all(c.drips, int64(0)))
	}
}

// P5: no tile saves more than the best one, whole tiles included, and no tile ahead of it as much.
func TestPromise5BestSave(t *testing.T) {
	eachRain(func(r impl.Roof, w impl.Rain) {
		best, most, code := impl.BestSave(r, w)
		want, less, found := bestIn(r, w)
		if !found {
			fails(t, "whole", impl.ErrNotFound, all(best, most, code))
			return
		}
		same(t, "best save", all(best, most, code), all(want, less, int64(0)))
		for _, at := range placesIn(r) {
			less, code := impl.SaveOf(r, w, at)
			same(t, "code", code, int64(0))
			if less > most || less == most && comesBefore(at, best) && kindIn(r, at) != impl.TiWhole {
				t.Errorf("%v in %v: %v saves %d, and %v saves %d", w, r, at, less, best, most)
			}
		}
	})
}

// P5: the edge cases: several tiles with the same save, saves of 0 and less, whole tiles ahead, and the last tile.
func TestPromise5EdgeCases(t *testing.T) {
	for _, c := range []struct {
		rows, rain string
		best       impl.Place
		less       int64
	}{
		{"xx-", "4 4 4 4 4", impl.Place{}, 4},
		{".xx-", "4 4 4 4 4 4 4", impl.Place{Tile: 1}, 4},
		{"x- -x", "4 0 4", impl.Place{}, 2},
		{"-x x-", "4 0 4", impl.Place{}, 2},
		{"x- -s o-", "0 0 0", impl.Place{}, 0},
		{".- -o", "9 0 0", impl.Place{Course: 1}, 0},
		{"s- -o", "0 9 0", impl.Place{Course: 1}, 0},
		{"s- -o", "9 9 0", impl.Place{Course: 1}, 0},
		{"s- -o", "9 3 0", impl.Place{}, 1},
		{"x- -o", "0 8 0", impl.Place{Course: 1}, 4},
		{"o- -x", "0 8 0", impl.Place{}, 4},
		{"x.- -so o.-", "7 7 7 7 7", impl.Place{Course: 1, Tile: 1}, 14},
	} {
		r := roof(strings.Fields(c.rows)...)
		w, _ := impl.ReadRain(r, c.rain)
		best, less, code := impl.BestSave(r, w)
		same(t, c.rows+" with "+c.rain, all(best, less, code), all(c.best, c.less, int64(0)))
	}
	greatest := impl.Roof{Wide: 8, High: 8}
	greatest.Tiles[7][7] = impl.TiMissing
	best, less, code := impl.BestSave(greatest, evenOf(greatest, 1000))
	same(t, "the last tile", all(best, less, code), all(impl.Place{Course: 7, Tile: 7}, int64(2000), int64(0)))
}
