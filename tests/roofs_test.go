package tests

import (
	"math"
	"strings"
	"testing"

	"loop.example/g01376/impl"
)

func TestCodeName(t *testing.T) {
	codes := []int64{impl.OK, impl.ErrInvalid, impl.ErrRange, impl.ErrLimit, impl.ErrState, impl.ErrSyntax, impl.ErrNotFound, impl.ErrBudget, impl.ErrProof}
	names := strings.Fields("ok invalid range limit state syntax notfound budget proof")
	for i, code := range codes {
		same(t, "number of a code", code, int64(i))
		same(t, "name of a code", impl.CodeName(code), names[i])
	}
	for _, code := range append(farNumbers(), 9, 10) {
		same(t, "name of no code", impl.CodeName(code), "")
	}
}

func TestConstantsOfRoofs(t *testing.T) {
	same(t, "limits", [3]int{impl.MaxWide, impl.MaxHigh, impl.MaxCells}, [3]int{8, 8, 17})
	same(t, "kinds", [4]int{impl.TiWhole, impl.TiCracked, impl.TiSlipped, impl.TiMissing}, [4]int{0, 1, 2, 3})
}

func TestValidRoof(t *testing.T) {
	for _, r := range sampleRoofs() {
		if !impl.ValidRoof(r) {
			t.Errorf("%v is valid", r)
		}
	}
	for name, r := range badRoofs() {
		if impl.ValidRoof(r) {
			t.Errorf("%s is not valid", name)
		}
	}
}

func TestKindsInPlacesThatAreNoTiles(t *testing.T) {
	for wide := range int8(8) {
		for high := range int8(8) {
			for c := range int8(8) {
				for k := range int8(8) {
					r := impl.Roof{Wide: wide + 1, High: high + 1}
					r.Tiles[c][k] = impl.TiMissing
					if impl.ValidRoof(r) != (c <= high && k <= wide) {
						t.Errorf("%v: got %v", r, !(c <= high && k <= wide))
					}
				}
			}
		}
	}
}

func TestSameRoof(t *testing.T) {
	changes := []func(r *impl.Roof){
		func(r *impl.Roof) { r.Wide++ },
		func(r *impl.Roof) { r.High-- },
		func(r *impl.Roof) { r.Shift ^= 1 },
		func(r *impl.Roof) { r.Shift += 2 },
		func(r *impl.Roof) { r.Tiles[0][0] ^= 1 },
		func(r *impl.Roof) { r.Tiles[7][7] += 9 },
	}
	list := append(sampleRoofs(), exampleRoof())
	for _, r := range badRoofs() {
		list = append(list, r)
	}
	for _, r := range list {
		if !impl.SameRoof(r, r) {
			t.Errorf("%v is as it is", r)
		}
		for i, change := range changes {
			other := r
			change(&other)
			if impl.SameRoof(r, other) || impl.SameRoof(other, r) {
				t.Errorf("change %d of %v is not the same", i, r)
			}
		}
	}
}

func TestWholeRoof(t *testing.T) {
	sizes := append(farNumbers(), 0, 1, 2, 7, 8, 9)
	for _, wide := range sizes {
		for _, high := range sizes {
			for _, shift := range sizes {
				r, code := impl.WholeRoof(wide, high, shift)
				if wide < 1 || wide > 8 || high < 1 || high > 8 || shift < 0 || shift > 1 {
					fails(t, "size", impl.ErrRange, all(r, code))
					continue
				}
				same(t, "whole", all(r, code), all(impl.Roof{Wide: int8(wide), High: int8(high), Shift: uint8(shift)}, int64(0)))
			}
		}
	}
}

func TestKindAtAndSetTile(t *testing.T) {
	for _, r := range sampleRoofs() {
		for _, at := range placesIn(r) {
			kind, code := impl.KindAt(r, at)
			same(t, "kind", all(kind, code), all(kindIn(r, at), int64(0)))
			for kind := range int64(4) {
				want := r
				want.Tiles[at.Course][at.Tile] = uint8(kind)
				got, code := impl.SetTile(r, at, kind)
				same(t, "set", all(got, code), all(want, int64(0)))
			}
		}
	}
}

func TestCountKindAndTilesOf(t *testing.T) {
	for _, r := range sampleRoofs() {
		for kind := range int64(4) {
			want := placesWhere(r, func(at impl.Place) bool { return kindIn(r, at) == kind })
			list, code := impl.TilesOf(r, kind)
			same(t, "code", code, int64(0))
			same(t, "tiles", list, want)
			count, code := impl.CountKind(r, kind)
			same(t, "count", all(count, code), all(int64(len(want)), int64(0)))
		}
	}
}

func TestIsShifted(t *testing.T) {
	for _, r := range sampleRoofs() {
		for course := range int64(r.High) {
			shifted, code := impl.IsShifted(r, course)
			same(t, "shifted", all(shifted, code), all(course%2 != int64(r.Shift), int64(0)))
		}
	}
}

func TestWhichCoursesAreShifted(t *testing.T) {
	for shift, want := range []string{".*.*.*.*", "*.*.*.*."} {
		r := impl.Roof{Wide: 3, High: 8, Shift: uint8(shift)}
		got := ""
		for course := range int64(8) {
			if shifted, _ := impl.IsShifted(r, course); shifted {
				got += "*"
			} else {
				got += "."
			}
		}
		same(t, "shifted courses", got, want)
	}
}

func TestCells(t *testing.T) {
	for _, r := range sampleRoofs() {
		covered := map[[2]int64]int64{}
		for _, at := range placesIn(r) {
			first := firstCell(r, at)
			cells, code := impl.CellsOf(r, at)
			same(t, "cells", all(cells, code), all([]int64{first, first + 1}, int64(0)))
			covered[[2]int64{int64(at.Course), first}] = int64(at.Tile)
			covered[[2]int64{int64(at.Course), first + 1}] = int64(at.Tile)
		}
		for course := range int64(r.High) {
			for cell := range 2*int64(r.Wide) + 1 {
				want, ok := covered[[2]int64{course, cell}]
				if !ok {
					want = -1
				}
				tile, code := impl.TileAt(r, course, cell)
				same(t, "tile", all(tile, code), all(want, int64(0)))
			}
		}
	}
}

func TestHalfTiles(t *testing.T) {
	for wide := range int64(8) {
		r := impl.Roof{Wide: int8(wide + 1), High: 2}
		for shift := range uint8(2) {
			r.Shift = shift
			right, code := impl.TileAt(r, int64(shift), 2*wide+2)
			same(t, "at the right end", all(right, code), all(int64(-1), int64(0)))
			left, code := impl.TileAt(r, 1-int64(shift), 0)
			same(t, "at the left end", all(left, code), all(int64(-1), int64(0)))
		}
	}
}

func TestLongestRun(t *testing.T) {
	for _, r := range sampleRoofs() {
		for kind := range int64(4) {
			var first impl.Place
			var most int64
			for c := range r.High {
				for k := range r.Wide {
					end := k
					for end < r.Wide && int64(r.Tiles[c][end]) == kind {
						end++
					}
					if int64(end-k) > most {
						first, most = impl.Place{Course: c, Tile: k}, int64(end-k)
					}
				}
			}
			at, long, code := impl.LongestRun(r, kind)
			if most == 0 {
				fails(t, "no run", impl.ErrNotFound, all(at, long, code))
				continue
			}
			same(t, "run", all(at, long, code), all(first, most, int64(0)))
		}
	}
}

func TestLongestRunOfSeveral(t *testing.T) {
	r := roof("-.xx.s", "xx.xx-", "-ooo.s")
	for kind, want := range []results{all(impl.Place{Tile: 0}, int64(1), int64(0)), all(impl.Place{Tile: 1}, int64(2), int64(0)), all(impl.Place{Tile: 4}, int64(1), int64(0)), all(impl.Place{Course: 2}, int64(3), int64(0))} {
		at, long, code := impl.LongestRun(r, int64(kind))
		same(t, "run", all(at, long, code), want)
	}
}

func TestMirrorRoof(t *testing.T) {
	for _, r := range sampleRoofs() {
		want := impl.Roof{Wide: r.Wide, High: r.High, Shift: r.Shift ^ 1}
		for _, at := range placesIn(r) {
			want.Tiles[at.Course][at.Tile] = r.Tiles[at.Course][r.Wide-at.Tile-1]
		}
		mirror, code := impl.MirrorRoof(r)
		same(t, "mirror", all(mirror, code), all(want, int64(0)))
		twice, code := impl.MirrorRoof(mirror)
		same(t, "twice", all(twice, code), all(r, int64(0)))
	}
}

func TestCutRoof(t *testing.T) {
	for _, r := range sampleRoofs() {
		for course := int64(-1); course <= 9; course++ {
			for courses := int64(-1); courses <= 9; courses++ {
				cut, code := impl.CutRoof(r, course, courses)
				if course < 0 || course >= int64(r.High) || courses < 1 || course+courses > int64(r.High) {
					fails(t, "not as many", impl.ErrRange, all(cut, code))
					continue
				}
				want := impl.Roof{Wide: r.Wide, High: int8(courses)}
				if shiftedIn(r, course) {
					want.Shift = 1
				}
				for c := range courses {
					want.Tiles[c] = r.Tiles[course+c]
				}
				same(t, "cut", all(cut, code), all(want, int64(0)))
			}
		}
	}
}

func TestCutRoofFromAnOddCourse(t *testing.T) {
	r := roof("x.-", "-xo", "s.-", "-.o")
	cut, code := impl.CutRoof(r, 1, 3)
	same(t, "from 1", all(cut, code), all(roof("-xo", "s.-", "-.o"), int64(0)))
	cut, code = impl.CutRoof(r, 3, 1)
	same(t, "from 3", all(cut, code), all(roof("-.o"), int64(0)))
	cut, code = impl.CutRoof(r, 2, 2)
	same(t, "from 2", all(cut, code), all(roof("s.-", "-.o"), int64(0)))
	mirror, _ := impl.MirrorRoof(r)
	cut, code = impl.CutRoof(mirror, 1, 2)
	same(t, "mirrored, from 1", all(cut, code), all(roof("ox-", "-.s"), int64(0)))
	cut, code = impl.CutRoof(mirror, 2, 1)
	same(t, "mirrored, from 2", all(cut, code), all(roof("-.s"), int64(0)))
	for _, courses := range farNumbers() {
		cut, code := impl.CutRoof(r, 1, courses)
		fails(t, "so many courses", impl.ErrRange, all(cut, code))
	}
}

func TestStackRoofs(t *testing.T) {
	list := sampleRoofs()
	for i, a := range list {
		for j := i % 7; j < len(list); j += 7 {
			b := list[j]
			got, code := impl.StackRoofs(a, b)
			switch {
			case a.Wide != b.Wide || shiftedIn(a, int64(a.High)) != shiftedIn(b, 0):
				fails(t, "not to be stacked", impl.ErrState, all(got, code))
			case a.High+b.High > 8:
				fails(t, "too high", impl.ErrLimit, all(got, code))
			default:
				want := impl.Roof{Wide: a.Wide, High: a.High + b.High, Shift: a.Shift}
				for c := range want.High {
					if c < a.High {
						want.Tiles[c] = a.Tiles[c]
					} else {
						want.Tiles[c] = b.Tiles[c-a.High]
					}
				}
				same(t, "stack", all(got, code), all(want, int64(0)))
			}
		}
	}
}

func TestStackingWhatHasBeenCut(t *testing.T) {
	for _, r := range sampleRoofs() {
		for course := int64(1); course < int64(r.High); course++ {
			top, _ := impl.CutRoof(r, 0, course)
			rest, _ := impl.CutRoof(r, course, int64(r.High)-course)
			got, code := impl.StackRoofs(top, rest)
			same(t, "stack", all(got, code), all(r, int64(0)))
		}
	}
}

func TestOrderOfErrorsOfStackRoofs(t *testing.T) {
	tall := impl.Roof{Wide: 2, High: 8}
	got, code := impl.StackRoofs(tall, roof("..-"))
	fails(t, "one course more", impl.ErrLimit, all(got, code))
	got, code = impl.StackRoofs(tall, roof("-.."))
	fails(t, "shifted otherwise, and too high", impl.ErrState, all(got, code))
	got, code = impl.StackRoofs(tall, roof("...-"))
	fails(t, "wider, and too high", impl.ErrState, all(got, code))
	got, code = impl.StackRoofs(roof("..-"), roof("..-"))
	fails(t, "shifted otherwise", impl.ErrState, all(got, code))
	got, code = impl.StackRoofs(tall, tall)
	fails(t, "both of them as high as can be", impl.ErrLimit, all(got, code))
	got, code = impl.StackRoofs(impl.Roof{Wide: 2, High: 4}, impl.Roof{Wide: 2, High: 4})
	same(t, "as high as can be", all(got, code), all(tall, int64(0)))
}

func TestMendAll(t *testing.T) {
	for _, r := range sampleRoofs() {
		wrong := placesWhere(r, func(at impl.Place) bool { return kindIn(r, at) != impl.TiWhole })
		mended, count, code := impl.MendAll(r)
		same(t, "mended", all(mended, count, code), all(impl.Roof{Wide: r.Wide, High: r.High, Shift: r.Shift}, int64(len(wrong)), int64(0)))
	}
}

func TestDifferIn(t *testing.T) {
	alike := map[impl.Roof][]impl.Roof{}
	for _, r := range sampleRoofs() {
		size := impl.Roof{Wide: r.Wide, High: r.High, Shift: r.Shift}
		alike[size] = append(alike[size], r)
	}
	for _, list := range alike {
		for _, a := range list {
			for _, b := range list {
				got, code := impl.DifferIn(a, b)
				same(t, "code", code, int64(0))
				same(t, "differ", got, placesWhere(a, func(at impl.Place) bool { return kindIn(a, at) != kindIn(b, at) }))
			}
		}
	}
	got, code := impl.DifferIn(exampleRoof(), roof("..-", "-xs", "..-"))
	same(t, "example", all(got, code), all([]impl.Place{{}, {Course: 1, Tile: 1}}, int64(0)))
}

func TestRoofsThatAreNotAlike(t *testing.T) {
	list := []impl.Roof{{Wide: 3, High: 3}, {Wide: 2, High: 3}, {Wide: 3, High: 2}, {Wide: 3, High: 3, Shift: 1}, {Wide: 8, High: 8}}
	for i, a := range list {
		for j, b := range list {
			got, code := impl.DifferIn(a, b)
			if i == j {
				same(t, "alike", all(len(got), code), all(0, int64(0)))
				continue
			}
			fails(t, "not alike", impl.ErrState, all(got, code))
		}
	}
}

func TestRoofText(t *testing.T) {
	texts := []string{".-\n", "-.\n", "o-\n", "-s\n", "x.-\n-xo\n..-\n", "-x.\nxo-\n", "........-\n", ".-\n-x\ns-\n-o\n.-\n-.\n.-\n-x\n"}
	texts = append(texts, strings.Repeat("-.xso.xso\nosx.osx.-\n", 4))
	for _, text := range texts {
		r := roof(strings.Split(strings.TrimSuffix(text, "\n"), "\n")...)
		same(t, "text", impl.RoofText(r), text)
		got, code := impl.ReadRoof(text)
		same(t, "read", all(got, code), all(r, int64(0)))
	}
	for _, r := range sampleRoofs() {
		got, code := impl.ReadRoof(impl.RoofText(r))
		same(t, "read from its text", all(got, code), all(r, int64(0)))
	}
	for name, r := range badRoofs() {
		same(t, "text of a roof with "+name, impl.RoofText(r), "")
	}
}

func TestTextsOfNoRoof(t *testing.T) {
	texts := []string{
		"", "\n", "\n\n", "-\n", "--\n", "-", ".", ".\n", "..\n", ".-", "x.-\n-xo", "x.-\n-xo\n\n", "\nx.-\n", "x.-\n\n-xo\n",
		".--\n", "--.\n", "-.-\n", ".-.\n", "x.-\nxo-\n", "-x.\n-xo\n", ".-\n-..\n", "..-\n-.\n", ".-\n-\n", ".-\n.-\n", "-.\n-.\n",
		".........-\n", "-.........\n", "X-\n", "0-\n", " -\n", "x -\n", "x-\r\n", "x- \n", " x-\n", "é-\n", "x\x00-\n", "\xff-\n", ".-\n-.\n.-\n-.\n.-\n-.\n.-\n-.\n.-\n",
		strings.Repeat(".", 1000000), strings.Repeat("\n", 1000000), strings.Repeat(".-\n-.\n", 150000), strings.Repeat(".", 257) + "-\n", strings.Repeat(".", 999998) + "-\n",
	}
	for _, text := range texts {
		r, code := impl.ReadRoof(text)
		fails(t, "text "+text[:min(len(text), 20)], impl.ErrSyntax, all(r, code))
	}
}

// TestTextsChanged changes each byte of texts: what is read has to have just this text.
func TestTextsChanged(t *testing.T) {
	for _, text := range []string{"x.-\n-xo\n..-\n", "-.\n", "-so\nx.-\n"} {
		for i := range len(text) {
			for b := range 256 {
				changed := text[:i] + string([]byte{byte(b)}) + text[i+1:]
				r, code := impl.ReadRoof(changed)
				if code == impl.OK {
					same(t, "text", impl.RoofText(r), changed)
				} else {
					fails(t, "changed text", impl.ErrSyntax, all(r, code))
				}
				if text[i] != '-' && text[i] != '\n' && strings.IndexByte(marks, byte(b)) >= 0 {
					same(t, "code", code, int64(0))
				}
			}
		}
	}
}

func TestRangeOfPlaces(t *testing.T) {
	for _, r := range []impl.Roof{exampleRoof(), roof(".-"), {Wide: 8, High: 8}, {Wide: 8, High: 8, Shift: 1}, {Wide: 1, High: 8}, {Wide: 8, High: 1}} {
		for _, at := range append(badPlaces(), impl.Place{Course: r.High}, impl.Place{Tile: r.Wide}) {
			for name, got := range callsWithPlace(r, at) {
				fails(t, name, impl.ErrRange, got)
			}
			set, code := impl.SetTile(r, at, 4)
			fails(t, "SetTile", impl.ErrRange, all(set, code))
		}
	}
}

// callsWithPlace has the results of all functions with a place.
func callsWithPlace(r impl.Roof, at impl.Place) map[string]results {
	list := map[string]results{}
	kind, code := impl.KindAt(r, at)
	list["KindAt"] = all(kind, code)
	set, code := impl.SetTile(r, at, 0)
	list["SetTile"] = all(set, code)
	cells, code := impl.CellsOf(r, at)
	list["CellsOf"] = all(cells, code)
	above, code := impl.AboveOf(r, at)
	list["AboveOf"] = all(above, code)
	below, code := impl.BelowOf(r, at)
	list["BelowOf"] = all(below, code)
	patch, code := impl.PatchOf(r, at)
	list["PatchOf"] = all(patch, code)
	return list
}

func TestRangeOfKinds(t *testing.T) {
	for _, kind := range append(farNumbers(), 4, 5) {
		for name, got := range callsWithKind(exampleRoof(), kind) {
			fails(t, name, impl.ErrRange, got)
		}
	}
}

// callsWithKind has the results of all functions with a kind.
func callsWithKind(r impl.Roof, kind int64) map[string]results {
	list := map[string]results{}
	set, code := impl.SetTile(r, impl.Place{}, kind)
	list["SetTile"] = all(set, code)
	count, code := impl.CountKind(r, kind)
	list["CountKind"] = all(count, code)
	tiles, code := impl.TilesOf(r, kind)
	list["TilesOf"] = all(tiles, code)
	patches, code := impl.PatchesOf(r, kind)
	list["PatchesOf"] = all(patches, code)
	at, long, code := impl.LongestRun(r, kind)
	list["LongestRun"] = all(at, long, code)
	return list
}

func TestRangeOfCoursesAndCells(t *testing.T) {
	for _, r := range []impl.Roof{exampleRoof(), roof("-."), {Wide: 8, High: 8}} {
		for _, course := range append(farNumbers(), int64(r.High)) {
			shifted, code := impl.IsShifted(r, course)
			fails(t, "IsShifted", impl.ErrRange, all(shifted, code))
			tile, code := impl.TileAt(r, course, 0)
			fails(t, "course of TileAt", impl.ErrRange, all(tile, code))
			cut, code := impl.CutRoof(r, course, 1)
			fails(t, "course of CutRoof", impl.ErrRange, all(cut, code))
			cut, code = impl.CutRoof(r, course, -course)
			fails(t, "courses of CutRoof", impl.ErrRange, all(cut, code))
		}
		for _, cell := range append(farNumbers(), 2*int64(r.Wide)+1, 2*int64(r.Wide)+2) {
			tile, code := impl.TileAt(r, int64(r.High)-1, cell)
			fails(t, "cell of TileAt", impl.ErrRange, all(tile, code))
		}
		cut, code := impl.CutRoof(r, int64(r.High)-1, math.MaxInt64)
		fails(t, "courses of CutRoof", impl.ErrRange, all(cut, code))
	}
}
