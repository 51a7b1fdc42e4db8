package tests

import (
	"maps"
	"math"
	"slices"
	"strings"

	"loop.example/g01376/impl"
)

// shape makes a shape of pairs of a left and a right edge.
func shape(shift uint8, edges ...int16) impl.Shape {
	s := impl.Shape{Shift: shift}
	for i := 0; i < len(edges); i += 2 {
		s.Courses = append(s.Courses, impl.Span{Left: edges[i], Right: edges[i+1]})
	}
	return s
}

// pieces makes pieces of words of a letter and a digit, without the help of the program.
func pieces(text string) []impl.Piece {
	hands := map[byte]int8{'l': impl.HaLeft, 'r': impl.HaRight, 'm': impl.HaMiddle}
	var list []impl.Piece
	for _, word := range strings.Fields(text) {
		list = append(list, impl.Piece{Hand: hands[word[0]], Wide: int8(word[1] - '0')})
	}
	return list
}

// everyPiece has all valid pieces.
func everyPiece() []impl.Piece {
	return pieces("l1 l2 l3 l4 l5 l6 l7 r1 r2 r3 r4 r5 r6 r7 m1 m2 m3 m4 m5 m6 m7")
}

// badPieces has pieces that are not valid.
func badPieces() []impl.Piece {
	list := []impl.Piece{{}, {Hand: -1, Wide: 1}, {Hand: 3, Wide: 1}, {Hand: math.MinInt8, Wide: 7}, {Hand: math.MaxInt8, Wide: 7}, {Hand: -1, Wide: -1}}
	for hand := range int8(3) {
		for _, wide := range []int8{0, 8, -1, 9, math.MinInt8, math.MaxInt8} {
			list = append(list, impl.Piece{Hand: hand, Wide: wide})
		}
	}
	return list
}

// badShapes has shapes that are not valid, by what is wrong with them.
func badShapes() map[string]impl.Shape {
	thirteen := shape(1, slices.Repeat([]int16{3, 30}, 13)...)
	return map[string]impl.Shape{
		"nothing":                   {},
		"no courses":                {Shift: 1, Courses: []impl.Span{}},
		"13 courses":                thirteen,
		"shift 2":                   shape(2, 3, 30),
		"shift 255":                 shape(255, 3, 30),
		"shift 2 and nothing":       shape(2),
		"left -1":                   shape(0, -1, 30),
		"left -32768":               shape(0, math.MinInt16, 30),
		"left as right":             shape(0, 3, 3),
		"left as right at 0":        shape(1, 0, 0),
		"left as right at the end":  shape(1, 200, 200),
		"left behind right":         shape(0, 30, 3),
		"right -1":                  shape(0, 0, -1),
		"right 201":                 shape(0, 3, 201),
		"right 32767":               shape(0, 3, math.MaxInt16),
		"both outside":              shape(0, -1, 201),
		"left 200":                  shape(0, 200, 201),
		"first course":              shape(0, -1, 30, 3, 30, 3, 30),
		"second course":             shape(0, 3, 30, 30, 30, 3, 30),
		"last course":               shape(1, slices.Concat(slices.Repeat([]int16{0, 200}, 11), []int16{0, 201})...),
		"course behind as many":     {Courses: append(slices.Clone(thirteen.Courses[:12]), impl.Span{Left: -1})},
		"courses and shift at once": {Shift: 2, Courses: thirteen.Courses},
	}
}

// validIn reports whether a shape is valid.
func validIn(s impl.Shape) bool {
	isIn := func(span impl.Span) bool { return 0 <= span.Left && span.Left < span.Right && span.Right <= 200 }
	return s.Shift < 2 && 0 < len(s.Courses) && len(s.Courses) < 13 && !slices.ContainsFunc(s.Courses, func(span impl.Span) bool { return !isIn(span) })
}

// edgeShapes has shapes of one course with each left and right edge near 0, 4, 8, the middle and the end, and of as many courses as there can be.
func edgeShapes() []impl.Shape {
	near := []int16{0, 1, 2, 3, 4, 5, 7, 8, 9, 11, 12, 13, 16, 20, 28, 30, 99, 100, 101, 104, 184, 187, 188, 189, 191, 192, 193, 195, 196, 197, 199, 200}
	var list []impl.Shape
	for shift := range uint8(2) {
		for i, left := range near {
			for _, right := range near[i+1:] {
				list = append(list, shape(shift, left, right))
			}
		}
		for _, edges := range [][]int16{{0, 200}, {3, 30}, {0, 1}, {199, 200}, {4, 12}, {9, 12}, {5, 195}} {
			list = append(list, shape(shift, slices.Repeat(edges, 12)...))
		}
	}
	return list
}

// someShape makes a shape of at most so many courses, with room behind them.
func someShape(n *numbers, most int, edge int) impl.Shape {
	s := impl.Shape{Shift: uint8(n.below(2)), Courses: make([]impl.Span, 0, 20)}
	for range n.below(most) + 1 {
		left := n.below(edge)
		right := left + 1 + n.below(edge-left)
		s.Courses = append(s.Courses, impl.Span{Left: int16(left), Right: int16(right)})
	}
	return s
}

// sampleShapes has edgeShapes, and shapes of several courses, some of which are narrow, or reach the end.
func sampleShapes() []impl.Shape {
	list := edgeShapes()
	n := numbers(61)
	for range 200 {
		list = append(list, someShape(&n, 2, 20), someShape(&n, 4, 40), someShape(&n, 12, 25), someShape(&n, 12, 200))
		far := someShape(&n, 3, 30)
		for i := range far.Courses {
			far.Courses[i].Left += 170
			far.Courses[i].Right += 170
		}
		list = append(list, far)
	}
	return list
}

// somePieces makes a list of at most so many pieces, with room behind them.
func somePieces(n *numbers, most int) []impl.Piece {
	list := make([]impl.Piece, 0, 40)
	for range n.below(most + 1) {
		list = append(list, everyPiece()[n.below(21)])
	}
	return list
}

// laidIn goes through the units of a course one by one: how many tiles have all of their units in it, and the pieces of the other ones.
func laidIn(s impl.Shape, course int) (int64, []impl.Piece) {
	begin := 0
	if (s.Shift == 1) != (course%2 == 1) {
		begin = 4
	}
	var whole int64
	var list []impl.Piece
	var units []int
	span := s.Courses[course]
	for unit := int(span.Left); unit < int(span.Right); unit++ {
		units = append(units, (unit+8-begin)%8)
		last := units[len(units)-1]
		if last < 7 && unit+1 < int(span.Right) {
			continue
		}
		switch wide := int8(len(units)); {
		case wide == 8:
			whole++
		case units[0] == 0:
			list = append(list, impl.Piece{Hand: impl.HaLeft, Wide: wide})
		case last == 7:
			list = append(list, impl.Piece{Hand: impl.HaRight, Wide: wide})
		default:
			list = append(list, impl.Piece{Hand: impl.HaMiddle, Wide: wide})
		}
		units = nil
	}
	return whole, list
}

// laidInAll does so for all courses.
func laidInAll(s impl.Shape) (int64, []impl.Piece) {
	var whole int64
	var list []impl.Piece
	for course := range s.Courses {
		more, others := laidIn(s, course)
		whole += more
		list = append(list, others...)
	}
	return whole, list
}

func unitsIn(s impl.Shape) int64 {
	var units int64
	for _, span := range s.Courses {
		units += int64(span.Right) - int64(span.Left)
	}
	return units
}

// fewestTilesIn returns how many tiles a shape needs.
func fewestTilesIn(s impl.Shape) int64 {
	whole, list := laidInAll(s)
	return whole + int64(len(list)) - mostPairs(list)
}

// movedIn returns a shape that is slid; it may not be valid.
func movedIn(s impl.Shape, by int64) impl.Shape {
	moved := impl.Shape{Shift: s.Shift}
	for _, span := range s.Courses {
		moved.Courses = append(moved.Courses, impl.Span{Left: int16(int64(span.Left) + by), Right: int16(int64(span.Right) + by)})
	}
	return moved
}

// fitTogether reports whether a left part and a right part can be cut of one tile.
func fitTogether(left, right impl.Piece) bool {
	return left.Hand == impl.HaLeft && right.Hand == impl.HaRight && left.Wide+right.Wide <= 8
}

// mostPairs returns how many pairs there can be at most: it makes room for each left part by moving others, as long as it can.
func mostPairs(list []impl.Piece) int64 {
	owner := make([]int, len(list))
	for i := range owner {
		owner[i] = -1
	}
	var seen []bool
	var place func(left int) bool
	place = func(left int) bool {
		for right := range list {
			if !seen[right] && fitTogether(list[left], list[right]) {
				seen[right] = true
				if owner[right] < 0 || place(owner[right]) {
					owner[right] = left
					return true
				}
			}
		}
		return false
	}
	var many int64
	for left := range list {
		seen = make([]bool, len(list))
		if place(left) {
			many++
		}
	}
	return many
}

// pairsIn pairs pieces as the document tells it.
func pairsIn(list []impl.Piece) [][]int64 {
	var pairs [][]int64
	taken := map[int]bool{}
	for wide := int8(7); wide > 0; wide-- {
		for i, left := range list {
			if left.Wide != wide {
				continue
			}
			best := -1
			for j, right := range list {
				if !taken[j] && fitTogether(left, right) && (best < 0 || right.Wide > list[best].Wide) {
					best = j
				}
			}
			if best >= 0 {
				taken[best] = true
				pairs = append(pairs, []int64{int64(i), int64(best)})
			}
		}
	}
	return pairs
}

// offcutsIn returns what is left of tiles that are cut.
func offcutsIn(list []impl.Piece) []impl.Piece {
	paired := slices.Concat(pairsIn(list)...)
	var offcuts []impl.Piece
	for i, p := range list {
		if slices.Contains(paired, int64(i)) {
			continue
		}
		switch p.Hand {
		case impl.HaLeft:
			offcuts = append(offcuts, impl.Piece{Hand: impl.HaRight, Wide: 8 - p.Wide})
		case impl.HaRight:
			offcuts = append(offcuts, impl.Piece{Hand: impl.HaLeft, Wide: 8 - p.Wide})
		}
	}
	return offcuts
}

// canBeCut reports whether a piece can be cut of one of a stock.
func canBeCut(p, stock impl.Piece) bool {
	if p.Hand != impl.HaMiddle && p.Hand != stock.Hand {
		return false
	}
	return stock.Wide >= p.Wide
}

// coverIn takes pieces of a stock as the document tells it.
func coverIn(list, stock []impl.Piece) []int64 {
	cover := make([]int64, len(list))
	taken := map[int]bool{}
	for wide := int8(7); wide > 0; wide-- {
		for i, p := range list {
			if p.Wide != wide {
				continue
			}
			best := -1
			for j, from := range stock {
				if !taken[j] && canBeCut(p, from) && (best < 0 || from.Wide < stock[best].Wide) {
					best = j
				}
			}
			cover[i] = int64(best)
			taken[best] = true
		}
	}
	return cover
}

// newIn returns the pieces that a stock does not cover.
func newIn(list, stock []impl.Piece) []impl.Piece {
	var left []impl.Piece
	for i, from := range coverIn(list, stock) {
		if from == -1 {
			left = append(left, list[i])
		}
	}
	return left
}

// callsOfShape has the results of all functions with a code that take a shape.
func callsOfShape(s impl.Shape, course, by int64) map[string]results {
	list := map[string]results{}
	number, code := impl.UnitsOf(s)
	list["UnitsOf"] = all(number, code)
	number, code = impl.WholeIn(s)
	list["WholeIn"] = all(number, code)
	number, code = impl.LeastTiles(s)
	list["LeastTiles"] = all(number, code)
	number, code = impl.WasteOf(s)
	list["WasteOf"] = all(number, code)
	own, code := impl.PiecesIn(s, course)
	list["PiecesIn"] = all(own, code)
	own, code = impl.AllPieces(s)
	list["AllPieces"] = all(own, code)
	other, code := impl.MirrorShape(s)
	list["MirrorShape"] = all(other, code)
	other, code = impl.SlideShape(s, by)
	list["SlideShape"] = all(other, code)
	slide, least, code := impl.BestSlide(s)
	list["BestSlide"] = all(slide, least, code)
	return list
}

// shapeCode returns the code that a function has to return for a valid shape.
func shapeCode(name string, s impl.Shape, course, by int64) int64 {
	switch {
	case name == "PiecesIn" && (course < 0 || course >= int64(len(s.Courses))), name == "SlideShape" && (by < -200 || by > 200):
		return impl.ErrRange
	case name == "SlideShape" && !validIn(movedIn(s, by)):
		return impl.ErrState
	}
	return impl.OK
}

// callsOfPieces has the results of all functions with a code that take one list of pieces.
func callsOfPieces(list []impl.Piece) map[string]results {
	pairs, one := impl.PairPieces(list)
	many, two := impl.TilesFor(list)
	offcuts, three := impl.OffcutsOf(list)
	return map[string]results{"PairPieces": all(pairs, one), "TilesFor": all(many, two), "OffcutsOf": all(offcuts, three)}
}

// callsOfStock has the results of all functions that take two lists of pieces.
func callsOfStock(list, stock []impl.Piece) map[string]results {
	cover, one := impl.CoverFrom(list, stock)
	many, two := impl.NewTilesFor(list, stock)
	return map[string]results{"CoverFrom": all(cover, one), "NewTilesFor": all(many, two)}
}

// callsOfCuts has the results of all functions of chapter 5 with a code.
func callsOfCuts(s impl.Shape, course, by int64, list, stock []impl.Piece) map[string]results {
	calls := callsOfShape(s, course, by)
	maps.Copy(calls, callsOfPieces(list))
	maps.Copy(calls, callsOfStock(list, stock))
	hip, code := impl.HipShape(impl.Span{Left: 100, Right: 101}, course, course, course, by)
	calls["HipShape"] = all(hip, code)
	read, code := impl.ReadPieces(impl.PiecesText(list))
	calls["ReadPieces"] = all(read, code)
	return calls
}
