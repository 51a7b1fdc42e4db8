package tests

import (
	"fmt"
	"math"
	"regexp"
	"slices"
	"strings"
	"testing"

	"loop.example/g01376/impl"
)

func TestConstantsOfCuts(t *testing.T) {
	same(t, "limits", [4]int{impl.TileWide, impl.MaxEdge, impl.MaxCourses, impl.MaxStock}, [4]int{8, 200, 12, 30})
	same(t, "hands", [3]int{impl.HaLeft, impl.HaRight, impl.HaMiddle}, [3]int{0, 1, 2})
}

func TestValidShape(t *testing.T) {
	for _, s := range sampleShapes() {
		same(t, fmt.Sprint("valid: ", s), impl.ValidShape(s), true)
	}
	for what, bad := range badShapes() {
		same(t, "valid with "+what, impl.ValidShape(bad), false)
	}
	numbers := []int16{math.MinInt16, -200, -1, 0, 1, 7, 8, 100, 199, 200, 201, 256, 257, math.MaxInt16}
	for _, left := range numbers {
		for _, right := range numbers {
			for shift := range uint8(4) {
				s := shape(shift, left, right)
				same(t, fmt.Sprint("valid: ", s), impl.ValidShape(s), validIn(s))
				s = shape(shift, 0, 200, left, right)
				same(t, fmt.Sprint("valid: ", s), impl.ValidShape(s), validIn(s))
			}
		}
	}
	for many := range 15 {
		s := shape(0, slices.Repeat([]int16{0, 1}, many)...)
		same(t, fmt.Sprint(many, " courses"), impl.ValidShape(s), many > 0 && many < 13)
	}
}

func TestSameShape(t *testing.T) {
	s := shape(1, 3, 30, 4, 40)
	for _, c := range []struct {
		a, b impl.Shape
		want bool
	}{
		{s, shape(1, 3, 30, 4, 40), true},
		{s, shape(0, 3, 30, 4, 40), false},
		{s, shape(1, 3, 30), false},
		{s, shape(1, 3, 30, 4, 40, 4, 40), false},
		{s, shape(1, 4, 40, 3, 30), false},
		{s, shape(1, 2, 30, 4, 40), false},
		{s, shape(1, 3, 30, 4, 41), false},
		{s, impl.Shape{}, false},
		{impl.Shape{}, impl.Shape{}, true},
		{impl.Shape{}, impl.Shape{Courses: []impl.Span{}}, true},
		{impl.Shape{Shift: 1}, impl.Shape{}, false},
		{shape(77, 9, -9), shape(77, 9, -9), true},
		{shape(77, 9, -9), shape(78, 9, -9), false},
		{shape(0, slices.Repeat([]int16{1, 2}, 20)...), shape(0, slices.Repeat([]int16{1, 2}, 20)...), true},
	} {
		same(t, fmt.Sprint(c.a, " as ", c.b), impl.SameShape(c.a, c.b), c.want)
		same(t, fmt.Sprint(c.b, " as ", c.a), impl.SameShape(c.b, c.a), c.want)
	}
	for what, bad := range badShapes() {
		same(t, "the same with "+what, impl.SameShape(bad, impl.Shape{Shift: bad.Shift, Courses: slices.Clone(bad.Courses)}), true)
	}
}

// hipIn returns the shape of a hip, each course by the first one; it may not be valid.
func hipIn(top impl.Span, left, right, courses, shift int64) impl.Shape {
	s := impl.Shape{Shift: uint8(shift)}
	for i := range courses {
		s.Courses = append(s.Courses, impl.Span{Left: top.Left - int16(i*left), Right: top.Right + int16(i*right)})
	}
	return s
}

func TestHipShape(t *testing.T) {
	tops := []impl.Span{{Left: 0, Right: 1}, {Left: 0, Right: 200}, {Left: 1, Right: 199}, {Left: 40, Right: 160}, {Left: 39, Right: 161}, {Left: 50, Right: 60}, {Left: 88, Right: 112}, {Left: 99, Right: 100}, {Left: 199, Right: 200}}
	for _, top := range tops {
		for _, left := range []int64{0, 1, 4, 8, 39, 40} {
			for _, right := range []int64{0, 1, 4, 8, 39, 40} {
				for courses := int64(1); courses <= 12; courses++ {
					for shift := range int64(2) {
						s, code := impl.HipShape(top, left, right, courses, shift)
						want := hipIn(top, left, right, courses, shift)
						if !validIn(want) {
							fails(t, fmt.Sprint("hip of ", want), impl.ErrState, all(s, code))
							continue
						}
						same(t, fmt.Sprint("hip of ", want), all(s, code), all(want, int64(0)))
					}
				}
			}
		}
	}
}

// TestEndsOfHips has last courses that end just at 0 and at MaxEdge, and one further.
func TestEndsOfHips(t *testing.T) {
	for _, c := range []struct {
		left, right          int16
		byLeft, byRight      int64
		courses, shift, code int64
		last                 impl.Span
	}{
		{40, 160, 40, 40, 2, 0, 0, impl.Span{Left: 0, Right: 200}},
		{39, 160, 40, 40, 2, 0, impl.ErrState, impl.Span{}},
		{40, 161, 40, 40, 2, 1, impl.ErrState, impl.Span{}},
		{40, 160, 40, 40, 3, 1, impl.ErrState, impl.Span{}},
		{88, 112, 8, 8, 12, 1, 0, impl.Span{Left: 0, Right: 200}},
		{87, 112, 8, 8, 12, 1, impl.ErrState, impl.Span{}},
		{88, 113, 8, 8, 12, 1, impl.ErrState, impl.Span{}},
		{0, 1, 0, 0, 12, 0, 0, impl.Span{Left: 0, Right: 1}},
		{0, 1, 1, 0, 1, 0, 0, impl.Span{Left: 0, Right: 1}},
		{0, 1, 1, 0, 2, 0, impl.ErrState, impl.Span{}},
		{199, 200, 0, 1, 1, 1, 0, impl.Span{Left: 199, Right: 200}},
		{199, 200, 0, 1, 2, 1, impl.ErrState, impl.Span{}},
		{199, 200, 18, 0, 12, 1, 0, impl.Span{Left: 1, Right: 200}},
		{199, 200, 19, 0, 12, 1, impl.ErrState, impl.Span{}},
	} {
		s, code := impl.HipShape(impl.Span{Left: c.left, Right: c.right}, c.byLeft, c.byRight, c.courses, c.shift)
		if c.code != impl.OK {
			fails(t, fmt.Sprint("hip of ", c), c.code, all(s, code))
			continue
		}
		same(t, fmt.Sprint("code of ", c), code, int64(0))
		same(t, "courses", len(s.Courses), int(c.courses))
		same(t, fmt.Sprint("last course of ", c), s.Courses[c.courses-1], c.last)
		same(t, "shift", s.Shift, uint8(c.shift))
	}
}

// TestCodesOfHips has numbers out of their ranges, also beside a first course that is not valid, and such courses alone, some of which would wrap around.
func TestCodesOfHips(t *testing.T) {
	good, bad := impl.Span{Left: 100, Right: 101}, impl.Span{Left: 5, Right: 5}
	for _, number := range append(farNumbers(), 0, 1, 2, 12, 13, 18, 40, 41) {
		for _, top := range []impl.Span{good, bad} {
			refuses := func(left, right, courses, shift int64) {
				t.Helper()
				s, code := impl.HipShape(top, left, right, courses, shift)
				fails(t, fmt.Sprint("hip with ", left, right, courses, shift), impl.ErrRange, all(s, code))
			}
			if number < 0 || number > 40 {
				refuses(number, 0, 1, 0)
				refuses(0, number, 1, 1)
			}
			if number < 1 || number > 12 {
				refuses(0, 0, number, 0)
			}
			if number < 0 || number > 1 {
				refuses(0, 0, 1, number)
			}
		}
	}
	for _, top := range []impl.Span{bad, {}, {Left: -1, Right: 5}, {Left: 5, Right: 201}, {Left: 6, Right: 5}, {Left: math.MinInt16, Right: 5}, {Left: 5, Right: math.MaxInt16}, {Left: math.MinInt16, Right: math.MaxInt16}, {Left: math.MaxInt16, Right: math.MinInt16}} {
		for courses := int64(1); courses <= 12; courses++ {
			s, code := impl.HipShape(top, 40, 40, courses, 0)
			fails(t, fmt.Sprint("hip from ", top), impl.ErrState, all(s, code))
		}
	}
}

func TestUnitsAndPiecesOfShapes(t *testing.T) {
	for _, s := range sampleShapes() {
		units, code := impl.UnitsOf(s)
		same(t, "units", all(units, code), all(unitsIn(s), int64(0)))
		whole, list := laidInAll(s)
		many, code := impl.WholeIn(s)
		same(t, fmt.Sprint("whole tiles in ", s), all(many, code), all(whole, int64(0)))
		got, code := impl.AllPieces(s)
		same(t, "code", code, int64(0))
		same(t, fmt.Sprint("pieces of ", s), got, list)
		for course := range s.Courses {
			_, own := laidIn(s, course)
			got, code = impl.PiecesIn(s, int64(course))
			same(t, "code", code, int64(0))
			same(t, fmt.Sprint("pieces of the course ", course, " of ", s), got, own)
		}
		least := fewestTilesIn(s)
		many, code = impl.LeastTiles(s)
		same(t, fmt.Sprint("least tiles for ", s), all(many, code), all(least, int64(0)))
		waste, code := impl.WasteOf(s)
		same(t, fmt.Sprint("waste of ", s), all(waste, code), all(8*least-unitsIn(s), int64(0)))
	}
}

// TestPiecesOfCourses has courses at each edge of a tile, within one, across the edge of two, as wide as one, and of each hand.
func TestPiecesOfCourses(t *testing.T) {
	for _, c := range []struct {
		shift       uint8
		left, right int16
		whole       int64
		pieces      string
		least       int64
	}{
		{0, 0, 200, 25, "", 25},
		{1, 0, 200, 24, "r4 l4", 25},
		{0, 3, 200, 24, "r5", 25},
		{1, 3, 200, 24, "r1 l4", 25},
		{0, 4, 200, 24, "r4", 25},
		{1, 4, 200, 24, "l4", 25},
		{0, 8, 200, 24, "", 24},
		{1, 8, 200, 23, "r4 l4", 24},
		{0, 0, 8, 1, "", 1},
		{1, 0, 8, 0, "r4 l4", 1},
		{0, 4, 12, 0, "r4 l4", 1},
		{1, 4, 12, 1, "", 1},
		{0, 0, 3, 0, "l3", 1},
		{1, 0, 3, 0, "m3", 1},
		{1, 0, 4, 0, "r4", 1},
		{1, 0, 5, 0, "r4 l1", 1},
		{1, 1, 3, 0, "m2", 1},
		{1, 3, 4, 0, "r1", 1},
		{0, 0, 7, 0, "l7", 1},
		{0, 1, 7, 0, "m6", 1},
		{0, 1, 8, 0, "r7", 1},
		{0, 3, 4, 0, "m1", 1},
		{0, 9, 12, 0, "m3", 1},
		{1, 9, 12, 0, "r3", 1},
		{0, 8, 12, 0, "l4", 1},
		{1, 8, 13, 0, "r4 l1", 1},
		{0, 3, 12, 0, "r5 l4", 2},
		{0, 3, 11, 0, "r5 l3", 1},
		{0, 1, 15, 0, "r7 l7", 2},
		{0, 1, 9, 0, "r7 l1", 1},
		{0, 7, 9, 0, "r1 l1", 1},
		{0, 1, 16, 1, "r7", 2},
		{0, 8, 23, 1, "l7", 2},
		{0, 199, 200, 0, "r1", 1},
		{1, 199, 200, 0, "m1", 1},
		{1, 196, 200, 0, "l4", 1},
		{1, 195, 200, 0, "r1 l4", 1},
		{0, 192, 200, 1, "", 1},
	} {
		// As the second course it is shifted if the first one is not.
		for course, s := range []impl.Shape{shape(c.shift, c.left, c.right), shape(1-c.shift, 40, 80, c.left, c.right)} {
			list, code := impl.PiecesIn(s, int64(course))
			same(t, "code", code, int64(0))
			same(t, fmt.Sprint("pieces of ", s), list, pieces(c.pieces))
		}
		s := shape(c.shift, c.left, c.right)
		whole, code := impl.WholeIn(s)
		same(t, fmt.Sprint("whole tiles in ", s), all(whole, code), all(c.whole, int64(0)))
		least, code := impl.LeastTiles(s)
		same(t, fmt.Sprint("least tiles for ", s), all(least, code), all(c.least, int64(0)))
	}
}

func TestCodesOfCourses(t *testing.T) {
	for _, number := range append(farNumbers(), 2, 3, 12) {
		list, code := impl.PiecesIn(shape(0, 3, 30, 4, 40), number)
		fails(t, fmt.Sprint("the course ", number), impl.ErrRange, all(list, code))
	}
	s := shape(1, slices.Repeat([]int16{3, 30}, 12)...)
	list, code := impl.PiecesIn(s, 11)
	same(t, "the last course", all(list, code), all(pieces("r5 l6"), int64(0)))
	list, code = impl.PiecesIn(s, 12)
	fails(t, "the course behind it", impl.ErrRange, all(list, code))
}

func TestOffcutsOf(t *testing.T) {
	n := numbers(62)
	for range 3000 {
		list := somePieces(&n, 30)
		offcuts, code := impl.OffcutsOf(list)
		same(t, "code", code, int64(0))
		same(t, "offcuts of "+impl.PiecesText(list), offcuts, offcutsIn(list))
	}
	for text, want := range map[string]string{
		"":                  "",
		"m1 m7 m4":          "",
		"l1":                "r7",
		"l7":                "r1",
		"r1":                "l7",
		"r7":                "l1",
		"l4 r4":             "",
		"r4 l4":             "",
		"l4 r5":             "r4 l3",
		"r5 l4":             "l3 r4",
		"m3 r5 m3 l4 m5":    "l3 r4",
		"l1 l2 l3":          "r7 r6 r5",
		"r2 r2 r2":          "l6 l6 l6",
		"l3 l3 r5":          "r5",
		"l3 r5 r5":          "l3",
		"l5 r3 l5 r4 r1 l7": "r3 l4",
	} {
		offcuts, code := impl.OffcutsOf(pieces(text))
		same(t, "offcuts of "+text, all(impl.PiecesText(offcuts), code), all(want, int64(0)))
	}
}

func TestSlideShape(t *testing.T) {
	n := numbers(63)
	for _, s := range sampleShapes() {
		for _, by := range []int64{-200, -199, -8, -1, 0, 1, 7, 8, 199, 200, int64(n.below(401) - 200), -int64(s.Courses[0].Left), 200 - int64(s.Courses[0].Right)} {
			slid, code := impl.SlideShape(s, by)
			want := movedIn(s, by)
			if !validIn(want) {
				fails(t, fmt.Sprint(s, " slid by ", by), impl.ErrState, all(slid, code))
				continue
			}
			same(t, fmt.Sprint(s, " slid by ", by), all(slid, code), all(want, int64(0)))
		}
	}
}

// TestEndsOfSlides has slides that end just at 0 and at MaxEdge, one further, and as far as can be told, and one further.
func TestEndsOfSlides(t *testing.T) {
	for _, c := range []struct {
		s    impl.Shape
		by   int64
		code int64
		want impl.Shape
	}{
		{shape(1, 3, 30), 0, 0, shape(1, 3, 30)},
		{shape(0, 3, 30), -3, 0, shape(0, 0, 27)},
		{shape(0, 3, 30), -4, impl.ErrState, impl.Shape{}},
		{shape(0, 3, 30), 170, 0, shape(0, 173, 200)},
		{shape(0, 3, 30), 171, impl.ErrState, impl.Shape{}},
		{shape(1, 0, 1), 199, 0, shape(1, 199, 200)},
		{shape(1, 199, 200), -199, 0, shape(1, 0, 1)},
		{shape(1, 199, 200), 1, impl.ErrState, impl.Shape{}},
		{shape(1, 0, 200), 0, 0, shape(1, 0, 200)},
		{shape(1, 0, 200), 1, impl.ErrState, impl.Shape{}},
		{shape(1, 0, 200), -1, impl.ErrState, impl.Shape{}},
		{shape(0, 5, 9, 20, 190), 10, 0, shape(0, 15, 19, 30, 200)},
		{shape(0, 5, 9, 20, 190), 11, impl.ErrState, impl.Shape{}},
		{shape(0, 50, 90, 2, 9), -2, 0, shape(0, 48, 88, 0, 7)},
		{shape(0, 50, 90, 2, 9), -3, impl.ErrState, impl.Shape{}},
		{shape(0, 0, 1), 200, impl.ErrState, impl.Shape{}},
		{shape(0, 199, 200), -200, impl.ErrState, impl.Shape{}},
		{shape(0, 0, 1), 201, impl.ErrRange, impl.Shape{}},
		{shape(0, 199, 200), -201, impl.ErrRange, impl.Shape{}},
	} {
		slid, code := impl.SlideShape(c.s, c.by)
		same(t, fmt.Sprint(c.s, " slid by ", c.by), all(slid, code), all(c.want, c.code))
	}
	for _, by := range farNumbers() {
		slid, code := impl.SlideShape(shape(0, 90, 110), by)
		if by < -200 || by > 200 {
			fails(t, fmt.Sprint("slid by ", by), impl.ErrRange, all(slid, code))
		}
	}
}

func TestBestSlide(t *testing.T) {
	var found [8]bool
	for _, s := range sampleShapes() {
		best, least := int64(-1), int64(0)
		for by := range int64(8) {
			slid := movedIn(s, by)
			if validIn(slid) && (best < 0 || fewestTilesIn(slid) < least) {
				best, least = by, fewestTilesIn(slid)
			}
		}
		by, many, code := impl.BestSlide(s)
		same(t, fmt.Sprint("best slide of ", s), all(by, many, code), all(best, least, int64(0)))
		found[best] = true
	}
	same(t, "each number is the best of some shape", found, [8]bool{true, true, true, true, true, true, true, true})
}

// TestFewSlides has shapes that reach MaxEdge, so that numbers are left out, and shapes with several slides that are as good.
func TestFewSlides(t *testing.T) {
	for _, c := range []struct {
		s         impl.Shape
		by, least int64
	}{
		{shape(0, 3, 30), 0, 4},
		{shape(0, 0, 8), 0, 1},
		{shape(0, 0, 200), 0, 25},
		{shape(1, 0, 200), 0, 25},
		{shape(0, 199, 200), 0, 1},
		{shape(0, 0, 1, 5, 11), 7, 1},
		{shape(0, 0, 2, 6, 11), 6, 1},
		{shape(0, 0, 3, 7, 11), 5, 1},
		{shape(0, 184, 185, 189, 193), 7, 1},
		{shape(0, 184, 185, 189, 194), 0, 2},
		{shape(0, 184, 185, 189, 195), 0, 2},
	} {
		by, least, code := impl.BestSlide(c.s)
		same(t, fmt.Sprint("best slide of ", c.s), all(by, least, code), all(c.by, c.least, int64(0)))
	}
}

func TestCoverFrom(t *testing.T) {
	n := numbers(64)
	for range 3000 {
		list, stock := somePieces(&n, 30), somePieces(&n, 30)
		checkCover(t, list, stock)
	}
	short := [][]impl.Piece{nil}
	for _, p := range everyPiece() {
		for _, q := range everyPiece() {
			short = append(short, []impl.Piece{p, q})
		}
	}
	for _, list := range short {
		for _, stock := range short {
			checkCover(t, list, stock)
		}
	}
}

// checkCover asserts what the functions tell of pieces and a stock, and that each piece of the stock is taken once at most, and can be cut.
func checkCover(t *testing.T, list, stock []impl.Piece) {
	t.Helper()
	cover, code := impl.CoverFrom(list, stock)
	if code != impl.OK || !slices.Equal(cover, coverIn(list, stock)) {
		t.Errorf("%v of the stock %v: got %v and %d", list, stock, cover, code)
	}
	taken := make([]bool, len(stock))
	for i, from := range cover {
		if from == -1 {
			continue
		}
		if taken[from] || !canBeCut(list[i], stock[from]) {
			t.Errorf("%v of the stock %v: got %v", list, stock, cover)
		}
		taken[from] = true
	}
	left := newIn(list, stock)
	many, code := impl.NewTilesFor(list, stock)
	if want := int64(len(left)) - mostPairs(left); many != want || code != impl.OK {
		t.Errorf("new tiles for %v beside %v: got %d and %d, want %d", list, stock, many, code, want)
	}
}

// TestCoversOfFew has no pieces and empty stocks, pieces as wide as asked, several that are, wider ones, hands, and middle pieces.
func TestCoversOfFew(t *testing.T) {
	for _, c := range []struct {
		list, stock string
		want        []int64
		tiles       int64
	}{
		{"", "", nil, 0},
		{"", "l7 r7 m7", nil, 0},
		{"l1 r1 m1", "", []int64{-1, -1, -1}, 2},
		{"r5", "r7 m4", []int64{0}, 0},
		{"r5", "r5", []int64{0}, 0},
		{"r5", "r4", []int64{-1}, 1},
		{"r5", "r7 r5 r6", []int64{1}, 0},
		{"r5", "r7 r5 r5 r5", []int64{1}, 0},
		{"r5", "l5 m5 l7 m7", []int64{-1}, 1},
		{"l5", "r5 m5 r7 m7", []int64{-1}, 1},
		{"m5", "l5", []int64{0}, 0},
		{"m5", "r5", []int64{0}, 0},
		{"m5", "m5", []int64{0}, 0},
		{"m5", "m7 r6 l5", []int64{2}, 0},
		{"m5", "r6 m6 l6", []int64{0}, 0},
		{"m5", "m4 r4 l4", []int64{-1}, 1},
		{"l3 l3", "l3", []int64{0, -1}, 1},
		{"l3 l5", "l7", []int64{-1, 0}, 1},
		{"l3 l5", "l7 l4", []int64{1, 0}, 0},
		{"l3 l5", "l4 l4", []int64{0, -1}, 1},
		{"l5 m5", "l5", []int64{0, -1}, 1},
		{"m5 l5", "l5", []int64{0, -1}, 1},
		{"m4 l5", "l5", []int64{-1, 0}, 1},
		{"l7 r7 m7", "l7 r7 m7", []int64{0, 1, 2}, 0},
		{"m7 m7 m7", "m7 l7 r7", []int64{0, 1, 2}, 0},
		{"l2 r6 m3", "r5 m2", []int64{-1, -1, 0}, 1},
		{"l3 r6 m3", "r5 m2", []int64{-1, -1, 0}, 2},
		{"l6 r5 r2 l3", "r7 m4", []int64{-1, 0, -1, -1}, 2},
	} {
		list, stock := pieces(c.list), pieces(c.stock)
		cover, code := impl.CoverFrom(list, stock)
		same(t, "code", code, int64(0))
		same(t, c.list+" of the stock "+c.stock, cover, c.want)
		many, code := impl.NewTilesFor(list, stock)
		same(t, "new tiles for "+c.list+" beside "+c.stock, all(many, code), all(c.tiles, int64(0)))
	}
	thirty := slices.Repeat(pieces("l7"), 30)
	cover, code := impl.CoverFrom(thirty, thirty)
	same(t, "code", code, int64(0))
	for i, from := range cover {
		same(t, "30 of 30", from, int64(i))
	}
}

func TestPiecesText(t *testing.T) {
	n := numbers(65)
	for range 1000 {
		list := somePieces(&n, 30)
		text := impl.PiecesText(list)
		same(t, "pieces of the text", pieces(text), list)
		read, code := impl.ReadPieces(text)
		same(t, "code", code, int64(0))
		same(t, "read "+text, read, list)
	}
	same(t, "all pieces", impl.PiecesText(everyPiece()), "l1 l2 l3 l4 l5 l6 l7 r1 r2 r3 r4 r5 r6 r7 m1 m2 m3 m4 m5 m6 m7")
	same(t, "no pieces", impl.PiecesText(nil)+impl.PiecesText([]impl.Piece{}), "")
	same(t, "30 pieces", impl.PiecesText(slices.Repeat(pieces("m3"), 30)), strings.Repeat("m3 ", 29)+"m3")
	same(t, "31 pieces", impl.PiecesText(slices.Repeat(pieces("m3"), 31)), "")
	for _, bad := range badPieces() {
		for _, list := range [][]impl.Piece{{bad}, {{Wide: 1}, bad}, {bad, {Wide: 1}}, append(slices.Repeat(pieces("m3"), 31), bad)} {
			same(t, fmt.Sprint("text of ", list), impl.PiecesText(list), "")
		}
	}
}

// textOfPieces describes all texts of pieces.
var textOfPieces = regexp.MustCompile(`\A([lrm][1-7]( [lrm][1-7]){0,29})?\z`)

func checkReading(t *testing.T, text string) {
	t.Helper()
	list, code := impl.ReadPieces(text)
	if !textOfPieces.MatchString(text) {
		fails(t, fmt.Sprintf("read %q", text), impl.ErrSyntax, all(list, code))
		return
	}
	same(t, fmt.Sprintf("code of %q", text), code, int64(0))
	same(t, fmt.Sprintf("read %q", text), list, pieces(text))
}

func TestReadPieces(t *testing.T) {
	for first := range 256 {
		checkReading(t, string([]byte{byte(first)}))
		for second := range 256 {
			checkReading(t, string([]byte{byte(first), byte(second)}))
			checkReading(t, string([]byte{'l', '5', byte(first), 'r', byte(second)}))
		}
	}
	const letters = "lm 18+0"
	texts := []string{""}
	for range 5 {
		var longer []string
		for _, text := range texts {
			for i := range letters {
				longer = append(longer, text+letters[i:i+1])
			}
		}
		for _, text := range longer {
			checkReading(t, text)
		}
		texts = longer
	}
}

// TestNearlyPieces has texts that are nearly those of pieces.
func TestNearlyPieces(t *testing.T) {
	for _, text := range []string{
		" ", "  ", "l5  r3", " l5", "l5 ", " l5 r3", "l5 r3 ", "l0", "l8", "l9", "l05", "l50", "l+5", "+", "l+", "+5", "l-5", "l-", "-5", "l", "r", "m", "5", "55", "x5", "L5", "R5", "M5", "0 5", "l5,r3", "l5\n", "\n", "l5\nr3", "l5\tr3", "l 5", "l5r3", "l5 r", "l5 3", "l5 r3 m", "l5 x3", "l1.0", "l٣", "ⅼ5", "l5\x00", "\x005", "l5\xff", "\xff5", "l1e0", "l0x5", "l5 l0", "l8 l5",
	} {
		list, code := impl.ReadPieces(text)
		fails(t, fmt.Sprintf("read %q", text), impl.ErrSyntax, all(list, code))
	}
	thirty := strings.Repeat("r7 ", 29) + "r7"
	list, code := impl.ReadPieces(thirty)
	same(t, "30 pieces", all(list, code), all(slices.Repeat(pieces("r7"), 30), int64(0)))
	for _, text := range []string{thirty + " r7", thirty + " ", thirty + " r8", " " + thirty, thirty + strings.Repeat(" r7", 300000), strings.Repeat(" ", 1000000), strings.Repeat("l", 1000000), strings.Repeat("l5 ", 300000)} {
		list, code = impl.ReadPieces(text)
		fails(t, fmt.Sprintf("read %d bytes", len(text)), impl.ErrSyntax, all(list, code))
	}
	list, code = impl.ReadPieces("")
	same(t, "the empty text", all(len(list), code), all(0, int64(0)))
}
