package tests

import (
	"fmt"
	"reflect"
	"slices"
	"testing"

	"loop.example/g01376/impl"
)

// everyEdge has numbers of courses and slides, in their ranges and out of them.
func everyEdge() []int64 {
	return append(farNumbers(), 0, 1, 2, 11, 12, 13, -200, -201, 199, 200, 201)
}

// P1: a shape that is not valid is refused ahead of all other errors, whatever the other arguments are.
func TestPromise1InvalidShapesFirst(t *testing.T) {
	for what, bad := range badShapes() {
		for i, course := range everyEdge() {
			by := everyEdge()[(i*7+3)%len(everyEdge())]
			for name, got := range callsOfShape(bad, course, by) {
				fails(t, name+" with "+what, impl.ErrInvalid, got)
			}
		}
	}
}

// P1: several errors at once: the first one, by the document's order, is returned, with zero values beside it.
func TestPromise1OrderOfErrorsInShapes(t *testing.T) {
	for _, s := range []impl.Shape{cutsShape(0), cutsShape(1), shape(0, 0, 200), shape(1, 199, 200, 0, 1), shape(0, slices.Repeat([]int16{50, 60}, 12)...)} {
		for _, course := range everyEdge() {
			for _, by := range everyEdge() {
				for name, got := range callsOfShape(s, course, by) {
					want := shapeCode(name, s, course, by)
					same(t, fmt.Sprint(name, " of ", s, " with ", course, " and ", by), got.code(), want)
					if want != impl.OK {
						fails(t, fmt.Sprint(name, " of ", s, " with ", course, " and ", by), want, got)
					}
				}
			}
		}
	}
}

// P1: a piece that is not valid is refused wherever it is, in each of two lists, also in a list that is too long, or beside one.
func TestPromise1InvalidPiecesFirst(t *testing.T) {
	good := []impl.Piece{{Wide: 1}, {Hand: impl.HaRight, Wide: 7}, {Hand: impl.HaMiddle, Wide: 4}}
	long := slices.Repeat(good, 11)
	for _, bad := range badPieces() {
		for _, list := range [][]impl.Piece{{bad}, append([]impl.Piece{bad}, good...), append(slices.Clone(good), bad), append(slices.Clone(long), bad), append([]impl.Piece{bad}, long...)} {
			for name, got := range callsOfPieces(list) {
				fails(t, fmt.Sprint(name, " of ", list), impl.ErrInvalid, got)
			}
			for _, other := range [][]impl.Piece{nil, good, long, list} {
				for name, got := range callsOfStock(list, other) {
					fails(t, fmt.Sprint(name, " of ", list, " and ", other), impl.ErrInvalid, got)
				}
				for name, got := range callsOfStock(other, list) {
					fails(t, fmt.Sprint(name, " of ", other, " and ", list), impl.ErrInvalid, got)
				}
			}
		}
	}
}

// P1: as many pieces as there can be, and one more, in each of two lists.
func TestPromise1LimitOfPieces(t *testing.T) {
	for _, p := range everyPiece() {
		thirty, more := slices.Repeat([]impl.Piece{p}, 30), slices.Repeat([]impl.Piece{p}, 31)
		for name, got := range callsOfPieces(thirty) {
			same(t, name+" of 30", got.code(), int64(impl.OK))
		}
		for name, got := range callsOfPieces(more) {
			fails(t, name+" of 31", impl.ErrLimit, got)
		}
		for name, got := range callsOfStock(thirty, thirty) {
			same(t, name+" of 30 and 30", got.code(), int64(impl.OK))
		}
		for _, other := range [][]impl.Piece{nil, thirty, more} {
			for name, got := range callsOfStock(more, other) {
				fails(t, name+" of 31 and others", impl.ErrLimit, got)
			}
			for name, got := range callsOfStock(other, more) {
				fails(t, name+" of others and 31", impl.ErrLimit, got)
			}
		}
	}
}

// P1: every function returns for lists that are as long as they can be.
func TestPromise1LongListsOfCuts(t *testing.T) {
	long := shape(0, slices.Repeat([]int16{3, 30}, 300000)...)
	for name, got := range callsOfShape(long, 0, 0) {
		fails(t, name, impl.ErrInvalid, got)
	}
	same(t, "a long shape as itself", impl.SameShape(long, long), true)
	list := slices.Repeat([]impl.Piece{{Wide: 1}}, 400000)
	for name, got := range callsOfStock(list, nil) {
		fails(t, name, impl.ErrLimit, got)
	}
	for name, got := range callsOfStock(nil, list) {
		fails(t, name, impl.ErrLimit, got)
	}
	for name, got := range callsOfPieces(list) {
		fails(t, name, impl.ErrLimit, got)
	}
	list[399999].Hand = 3
	for name, got := range callsOfPieces(list) {
		fails(t, name, impl.ErrInvalid, got)
	}
	same(t, "text", impl.PiecesText(list), "")
}

// P1: every function returns, for arguments of all kinds, with zero values beside an error.
func TestPromise1AllArgumentsOfCuts(t *testing.T) {
	n := numbers(66)
	edge := func() int16 { return []int16{-32768, -1, 0, 3, 8, 30, 199, 200, 201, 32767}[n.below(10)] }
	for i := range 20000 {
		s := shape(uint8(n.below(3)))
		for range n.below(14) {
			s.Courses = append(s.Courses, impl.Span{Left: edge(), Right: edge()})
		}
		if i%2 == 0 {
			s = someShape(&n, 12, 200)
		}
		list, stock := somePieces(&n, 32), somePieces(&n, 32)
		if n.below(4) == 0 {
			list = append(list, badPieces()[n.below(len(badPieces()))])
		}
		course, by := everyEdge()[n.below(len(everyEdge()))], everyEdge()[n.below(len(everyEdge()))]
		for name, got := range callsOfCuts(s, course, by, list, stock) {
			if got.code() != impl.OK {
				fails(t, name, got.code(), got)
			}
		}
	}
}

// P1: equal arguments have equal results, those of a second call after a change of the first results, too.
func TestPromise1EqualResultsOfCuts(t *testing.T) {
	n := numbers(67)
	for _, s := range sampleShapes() {
		list, stock := somePieces(&n, 30), somePieces(&n, 30)
		course, by := int64(n.below(len(s.Courses))), int64(n.below(3))
		returnTheSame(t, all(s, list, stock), func() map[string]results { return callsOfCuts(s, course, by, list, stock) })
		returnTheSame(t, list, func() map[string]results { return callsOfStock(list, list) })
		same(t, "as itself", impl.SameShape(s, s), true)
		same(t, "text", impl.PiecesText(list), impl.PiecesText(slices.Clone(list)))
	}
}

// P1: no function changes a list, nor the room behind it, and nil lists are as empty ones.
func TestPromise1ListsOfCutsAreKept(t *testing.T) {
	n := numbers(68)
	for range 500 {
		s, list, stock := someShape(&n, 12, 200), somePieces(&n, 30), somePieces(&n, 30)
		spans, first, second := slices.Clone(s.Courses[:20]), slices.Clone(list[:40]), slices.Clone(stock[:40])
		callsOfCuts(s, 0, 1, list, stock)
		impl.ValidShape(s)
		impl.SameShape(s, s)
		same(t, "courses", s.Courses[:20], spans)
		same(t, "pieces", list[:40], first)
		same(t, "stock", stock[:40], second)
	}
	for _, list := range [][]impl.Piece{nil, {}} {
		for name, got := range callsOfPieces(list) {
			same(t, name+" of nothing", all(got.isNothing(), got.code()), all(true, int64(0)))
		}
		for name, got := range callsOfStock(list, list) {
			same(t, name+" of nothing", all(got.isNothing(), got.code()), all(true, int64(0)))
		}
		for name, got := range callsOfStock(list, pieces("l7 m1")) {
			same(t, name+" of nothing", all(got.isNothing(), got.code()), all(true, int64(0)))
		}
	}
	for name, got := range callsOfShape(impl.Shape{Courses: []impl.Span{}}, 0, 0) {
		fails(t, name, impl.ErrInvalid, got)
	}
}

// P1: no two pairs of one result share memory, nor the room behind it.
func TestPromise1PairsAreApart(t *testing.T) {
	n := numbers(69)
	for range 300 {
		list := somePieces(&n, 30)
		want, _ := impl.PairPieces(list)
		for i := range want {
			got, _ := impl.PairPieces(list)
			fill(got[i], -77)
			for j := range got {
				if j != i {
					same(t, "pair beside one that is changed", got[j], want[j])
				}
			}
		}
	}
}

// swapped returns pieces with left and right exchanged, from the last one to the first one.
func swapped(list []impl.Piece) []impl.Piece {
	var other []impl.Piece
	for _, p := range list {
		hand := map[int8]int8{impl.HaLeft: impl.HaRight, impl.HaRight: impl.HaLeft, impl.HaMiddle: impl.HaMiddle}[p.Hand]
		other = append([]impl.Piece{{Hand: hand, Wide: p.Wide}}, other...)
	}
	return other
}

// checkLaid asserts that what is laid is as wide as a shape, and that the shape needs as many tiles mirrored.
func checkLaid(t *testing.T, s impl.Shape) {
	t.Helper()
	whole, _ := impl.WholeIn(s)
	list, _ := impl.AllPieces(s)
	units, _ := impl.UnitsOf(s)
	least, _ := impl.LeastTiles(s)
	laid := 8 * whole
	for _, p := range list {
		laid += int64(p.Wide)
	}
	mirror, code := impl.MirrorShape(s)
	if laid != units || code != impl.OK || !impl.ValidShape(mirror) {
		t.Fatalf("%v: %d units are laid of %d, mirrored it is %v with the code %d", s, laid, units, mirror, code)
	}
	other, _ := impl.WholeIn(mirror)
	needs, _ := impl.LeastTiles(mirror)
	again, _ := impl.MirrorShape(mirror)
	if other != whole || needs != least || !reflect.DeepEqual(again.Courses, s.Courses) || again.Shift != s.Shift {
		t.Fatalf("%v: %d whole tiles of %d, mirrored %d of %d; mirrored twice %v", s, whole, least, other, needs, again)
	}
	for course := range s.Courses {
		own, _ := impl.PiecesIn(s, int64(course))
		others, _ := impl.PiecesIn(mirror, int64(course))
		if !slices.Equal(others, swapped(own)) {
			t.Fatalf("%v: the course %d has the pieces %v, mirrored %v", s, course, own, others)
		}
	}
}

// P10: all shapes of one course.
func TestPromise10OneCourse(t *testing.T) {
	for shift := range uint8(2) {
		for left := range int16(200) {
			for right := left + 1; right <= 200; right++ {
				checkLaid(t, shape(shift, left, right))
			}
		}
	}
}

// P10: shapes of several courses, up to MaxCourses.
func TestPromise10Shapes(t *testing.T) {
	for _, s := range sampleShapes() {
		checkLaid(t, s)
	}
}

// P10: the edge cases: courses at each end, within one tile, across two, as wide as a tile, and mirrored shapes of 1 and 2 courses, shifted and not.
func TestPromise10EdgeCases(t *testing.T) {
	for _, c := range []struct {
		s, mirror     impl.Shape
		before, after string
		least         int64
	}{
		{shape(0, 3, 30), shape(0, 170, 197), "r5 l6", "r6 l5", 4},
		{shape(1, 3, 30), shape(1, 170, 197), "r1 l2", "r2 l1", 4},
		{shape(0, 0, 200), shape(0, 0, 200), "", "", 25},
		{shape(1, 0, 200), shape(1, 0, 200), "r4 l4", "r4 l4", 25},
		{shape(0, 0, 1), shape(0, 199, 200), "l1", "r1", 1},
		{shape(1, 0, 1), shape(1, 199, 200), "m1", "m1", 1},
		{shape(0, 9, 12), shape(0, 188, 191), "m3", "m3", 1},
		{shape(1, 9, 12), shape(1, 188, 191), "r3", "l3", 1},
		{shape(0, 8, 16), shape(0, 184, 192), "", "", 1},
		{shape(1, 4, 12), shape(1, 188, 196), "", "", 1},
		{shape(0, 0, 5, 3, 30), shape(0, 195, 200, 170, 197), "l5 r1 l2", "r5 r2 l1", 5},
		{shape(1, 0, 5, 3, 30), shape(1, 195, 200, 170, 197), "r4 l1 r5 l6", "r1 l4 r6 l5", 5},
		{shape(0, 7, 10, 7, 10), shape(0, 190, 193, 190, 193), "r1 l2 m3", "r2 l1 m3", 2},
	} {
		checkLaid(t, c.s)
		mirror, code := impl.MirrorShape(c.s)
		same(t, fmt.Sprint(c.s, " mirrored"), all(mirror, code), all(c.mirror, int64(0)))
		for s, text := range map[*impl.Shape]string{&c.s: c.before, &mirror: c.after} {
			list, code := impl.AllPieces(*s)
			same(t, fmt.Sprint("pieces of ", *s), all(impl.PiecesText(list), code), all(text, int64(0)))
			least, code := impl.LeastTiles(*s)
			same(t, fmt.Sprint("least tiles for ", *s), all(least, code), all(c.least, int64(0)))
		}
	}
}

// P10: invalid inputs.
func TestPromise10InvalidInputs(t *testing.T) {
	for what, bad := range badShapes() {
		got := callsOfShape(bad, 0, 0)
		for _, name := range []string{"UnitsOf", "WholeIn", "PiecesIn", "AllPieces", "LeastTiles", "WasteOf", "MirrorShape"} {
			fails(t, name+" with "+what, impl.ErrInvalid, got[name])
		}
	}
	for _, course := range []int64{-1, 1, 12, 1 << 32} {
		list, code := impl.PiecesIn(cutsShape(0), course)
		fails(t, "PiecesIn", impl.ErrRange, all(list, code))
	}
}

// checkPairs asserts that each pair can be cut of one tile, no piece being in two of them, and that no fewer tiles are enough; and returns the pairs.
func checkPairs(t *testing.T, list []impl.Piece) [][]int64 {
	t.Helper()
	pairs, code := impl.PairPieces(list)
	many, other := impl.TilesFor(list)
	if code != impl.OK || other != impl.OK || many != int64(len(list)-len(pairs)) || int64(len(pairs)) != mostPairs(list) {
		t.Errorf("%v: got the pairs %v and %d tiles, with %d and %d; there can be %d pairs", list, pairs, many, code, other, mostPairs(list))
	}
	seen := make([]bool, len(list))
	for _, pair := range pairs {
		if len(pair) != 2 || seen[pair[0]] || seen[pair[1]] || !fitTogether(list[pair[0]], list[pair[1]]) {
			t.Fatalf("%v: got the pairs %v", list, pairs)
		}
		seen[pair[0]], seen[pair[1]] = true, true
	}
	return pairs
}

// P11: pieces that are paired can be cut of one tile, in the order of the document, and no fewer tiles are enough.
func TestPromise11Pairs(t *testing.T) {
	n := numbers(70)
	for i := range 3000 {
		list := somePieces(&n, i%31)
		if i%3 == 0 {
			// Without middle pieces there are more pairs.
			list = slices.DeleteFunc(list, func(p impl.Piece) bool { return p.Hand == impl.HaMiddle })
		}
		same(t, fmt.Sprint("pairs of ", list), checkPairs(t, list), pairsIn(list))
	}
}

// P11: all lists of up to 3 pieces.
func TestPromise11ShortLists(t *testing.T) {
	lists := [][]impl.Piece{nil}
	for range 3 {
		var longer [][]impl.Piece
		for _, list := range lists {
			for _, p := range everyPiece() {
				longer = append(longer, append(slices.Clone(list), p))
			}
		}
		for _, list := range longer {
			same(t, fmt.Sprint("pairs of ", list), checkPairs(t, list), pairsIn(list))
		}
		lists = longer
	}
}

// P11: the edge cases: no pieces, one alone, parts that are together just as wide as a tile, and one more, pieces as wide as others, middle pieces, and MaxStock pieces.
func TestPromise11EdgeCases(t *testing.T) {
	for _, c := range []struct {
		text  string
		pairs [][]int64
	}{
		{"", nil},
		{"l1", nil},
		{"r1", nil},
		{"m1", nil},
		{"l1 l1", nil},
		{"r1 r1", nil},
		{"m1 m1 l1 m1", nil},
		{"m1 r1", nil},
		{"l4 r4", [][]int64{{0, 1}}},
		{"r4 l4", [][]int64{{1, 0}}},
		{"l4 r5", nil},
		{"l5 r4", nil},
		{"l7 r1", [][]int64{{0, 1}}},
		{"l1 r7", [][]int64{{0, 1}}},
		{"l7 r2", nil},
		{"l2 r7", nil},
		{"m7 l7 m1 r1 m2", [][]int64{{1, 3}}},
		{"l3 l3 r5", [][]int64{{0, 2}}},
		{"l3 r5 r5", [][]int64{{0, 1}}},
		{"l3 l3 r5 r5", [][]int64{{0, 2}, {1, 3}}},
		{"r5 r5 l3 l3", [][]int64{{2, 0}, {3, 1}}},
		{"l3 r4 r5 r6", [][]int64{{0, 2}}},
		{"l3 l4 l5 r3", [][]int64{{2, 3}}},
		{"l3 l6 r5 r2", [][]int64{{1, 3}, {0, 2}}},
		{"l6 r5 r2 l3", [][]int64{{0, 2}, {3, 1}}},
		{"l1 l2 r1 r2", [][]int64{{1, 3}, {0, 2}}},
		{"l7 l7 r1 r1 r1", [][]int64{{0, 2}, {1, 3}}},
		{"l1 l1 l1 r7 r7", [][]int64{{0, 3}, {1, 4}}},
		{"r1 l6 r2 l5 r3 l4 r4", [][]int64{{1, 2}, {3, 4}, {5, 6}}},
	} {
		same(t, "pairs of "+c.text, checkPairs(t, pieces(c.text)), c.pairs)
	}
	for _, text := range []string{"l4", "r4", "m4", "l4 r4", "l5 r4", "l4 r4 m4", "r3 l5 m7"} {
		list := slices.Repeat(pieces(text), 30/len(pieces(text)))
		same(t, "pairs of 30 pieces, "+text, checkPairs(t, list), pairsIn(list))
	}
}

// P11: invalid inputs.
func TestPromise11InvalidInputs(t *testing.T) {
	for _, bad := range badPieces() {
		for name, got := range callsOfPieces([]impl.Piece{{Hand: impl.HaLeft, Wide: 1}, bad, {Hand: impl.HaRight, Wide: 1}}) {
			fails(t, fmt.Sprint(name, " with ", bad), impl.ErrInvalid, got)
		}
	}
	for name, got := range callsOfPieces(slices.Repeat(pieces("l4"), 31)) {
		fails(t, name+" of 31", impl.ErrLimit, got)
	}
	for name, got := range callsOfPieces(append(slices.Repeat(pieces("l4"), 31), impl.Piece{})) {
		fails(t, name+" of 32, one of which is none", impl.ErrInvalid, got)
	}
}
