package impl

import (
	"iter"
	"strings"
)

// Codes of errors.
const (
	OK          = 0
	ErrInvalid  = 1
	ErrRange    = 2
	ErrLimit    = 3
	ErrState    = 4
	ErrSyntax   = 5
	ErrNotFound = 6
	ErrBudget   = 7
	ErrProof    = 8
)

// Limits of roofs.
const (
	MaxWide  = 8
	MaxHigh  = 8
	MaxCells = 17
)

// Kinds of tiles.
const (
	TiWhole   = 0
	TiCracked = 1
	TiSlipped = 2
	TiMissing = 3
)

// The texts of roofs: the mark of the kind k is kindMarks[k].
const (
	kindMarks = ".xso"
	halfMark  = "-"
)

// inPatch is what a tile of a patch has in the roof that stands for the patch.
const inPatch = 1

var codeNames = [9]string{"ok", "invalid", "range", "limit", "state", "syntax", "notfound", "budget", "proof"}

// Place tells a tile.
type Place struct {
	Course int8
	Tile   int8
}

// Roof has courses of tiles.
type Roof struct {
	Wide  int8
	High  int8
	Shift uint8
	Tiles [8][8]uint8
}

// CodeName returns the name of an error code.
func CodeName(code int64) string {
	if code < 0 || code >= int64(len(codeNames)) {
		return ""
	}
	return codeNames[code]
}

// ValidRoof reports whether a roof is valid.
func ValidRoof(r Roof) bool {
	if r.Wide < 1 || r.Wide > MaxWide || r.High < 1 || r.High > MaxHigh || r.Shift > 1 {
		return false
	}
	for _, row := range r.Tiles[:r.High] {
		if !validRow(row, r.Wide) {
			return false
		}
	}
	for _, row := range r.Tiles[r.High:] {
		if row != [8]uint8{} {
			return false
		}
	}
	return true
}

// validRow reports whether a course of so many tiles has kinds for these, and 0 behind them.
func validRow(row [8]uint8, wide int8) bool {
	for k, kind := range row {
		if kind > TiMissing || k >= int(wide) && kind != 0 {
			return false
		}
	}
	return true
}

// SameRoof reports whether two roofs are equal.
func SameRoof(a, b Roof) bool {
	return a == b
}

// WholeRoof returns the roof with whole tiles alone.
func WholeRoof(wide, high, shift int64) (Roof, int64) {
	if wide < 1 || wide > MaxWide || high < 1 || high > MaxHigh || shift < 0 || shift > 1 {
		return Roof{}, ErrRange
	}
	return Roof{Wide: int8(wide), High: int8(high), Shift: uint8(shift)}, OK
}

// KindAt returns the kind of a tile.
func KindAt(r Roof, at Place) (int64, int64) {
	if code := checkPlace(r, at); code != OK {
		return 0, code
	}
	return r.kind(at), OK
}

// SetTile replaces the kind of a tile.
func SetTile(r Roof, at Place, kind int64) (Roof, int64) {
	if code := checkPlace(r, at); code != OK {
		return Roof{}, code
	}
	if code := checkKind(r, kind); code != OK {
		return Roof{}, code
	}
	r.Tiles[at.Course][at.Tile] = uint8(kind)
	return r, OK
}

// CountKind returns how many tiles of a kind there are.
func CountKind(r Roof, kind int64) (int64, int64) {
	if code := checkKind(r, kind); code != OK {
		return 0, code
	}
	return int64(len(r.placesOf(kind))), OK
}

// TilesOf returns the places of all tiles of a kind.
func TilesOf(r Roof, kind int64) ([]Place, int64) {
	if code := checkKind(r, kind); code != OK {
		return nil, code
	}
	return r.placesOf(kind), OK
}

// IsShifted reports whether a course is shifted.
func IsShifted(r Roof, course int64) (bool, int64) {
	if code := checkCourse(r, course); code != OK {
		return false, code
	}
	return r.shifted(course), OK
}

// CellsOf returns the two cells of a tile.
func CellsOf(r Roof, at Place) ([]int64, int64) {
	if code := checkPlace(r, at); code != OK {
		return nil, code
	}
	cells := r.cells(at)
	return cells[:], OK
}

// TileAt returns the tile that covers a cell of a course.
func TileAt(r Roof, course, cell int64) (int64, int64) {
	if code := checkCourse(r, course); code != OK {
		return 0, code
	}
	if cell < 0 || cell >= r.across() {
		return 0, ErrRange
	}
	return r.tileAt(course, cell), OK
}

// AboveOf returns the tiles that lap over a tile.
func AboveOf(r Roof, at Place) ([]Place, int64) {
	if code := checkPlace(r, at); code != OK {
		return nil, code
	}
	return r.above(at), OK
}

// BelowOf returns the tiles over which a tile laps.
func BelowOf(r Roof, at Place) ([]Place, int64) {
	if code := checkPlace(r, at); code != OK {
		return nil, code
	}
	return r.below(at), OK
}

// PatchOf returns the patch of a tile.
func PatchOf(r Roof, at Place) ([]Place, int64) {
	if code := checkPlace(r, at); code != OK {
		return nil, code
	}
	return r.patch(at).placesOf(inPatch), OK
}

// PatchesOf returns all patches of a kind.
func PatchesOf(r Roof, kind int64) ([][]Place, int64) {
	if code := checkKind(r, kind); code != OK {
		return nil, code
	}
	var list [][]Place
	seen := map[Roof]bool{}
	for _, at := range r.placesOf(kind) {
		patch := r.patch(at)
		if seen[patch] {
			continue
		}
		seen[patch] = true
		list = append(list, patch.placesOf(inPatch))
	}
	return list, OK
}

// LongestRun returns the longest run of tiles of a kind.
func LongestRun(r Roof, kind int64) (Place, int64, int64) {
	if code := checkKind(r, kind); code != OK {
		return Place{}, 0, code
	}
	var first Place
	var most int64
	for at := range r.places() {
		if many := r.runFrom(at, kind); many > most {
			first, most = at, many
		}
	}
	if most == 0 {
		return Place{}, 0, ErrNotFound
	}
	return first, most, OK
}

// MirrorRoof exchanges left and right.
func MirrorRoof(r Roof) (Roof, int64) {
	if !ValidRoof(r) {
		return Roof{}, ErrInvalid
	}
	mirror := r.mended()
	mirror.Shift = 1 - r.Shift
	for at := range r.places() {
		mirror.Tiles[at.Course][r.Wide-1-at.Tile] = r.Tiles[at.Course][at.Tile]
	}
	return mirror, OK
}

// CutRoof returns the roof of some courses.
func CutRoof(r Roof, course, courses int64) (Roof, int64) {
	if code := checkCourse(r, course); code != OK {
		return Roof{}, code
	}
	if courses < 1 || courses > int64(r.High)-course {
		return Roof{}, ErrRange
	}
	cut := Roof{Wide: r.Wide, High: int8(courses)}
	if r.shifted(course) {
		cut.Shift = 1
	}
	copy(cut.Tiles[:], r.Tiles[course:course+courses])
	return cut, OK
}

// StackRoofs returns the courses of a, and then those of b.
func StackRoofs(a, b Roof) (Roof, int64) {
	if !ValidRoof(a) || !ValidRoof(b) {
		return Roof{}, ErrInvalid
	}
	if a.Wide != b.Wide || a.shifted(int64(a.High)) != b.shifted(0) {
		return Roof{}, ErrState
	}
	if a.High+b.High > MaxHigh {
		return Roof{}, ErrLimit
	}
	copy(a.Tiles[a.High:], b.Tiles[:b.High])
	a.High += b.High
	return a, OK
}

// MendAll makes all tiles whole.
func MendAll(r Roof) (Roof, int64, int64) {
	if !ValidRoof(r) {
		return Roof{}, 0, ErrInvalid
	}
	all := int64(r.Wide) * int64(r.High)
	return r.mended(), all - int64(len(r.placesOf(TiWhole))), OK
}

// DifferIn returns the places of all tiles whose kinds differ.
func DifferIn(a, b Roof) ([]Place, int64) {
	if !ValidRoof(a) || !ValidRoof(b) {
		return nil, ErrInvalid
	}
	if a.mended() != b.mended() {
		return nil, ErrState
	}
	return a.placesWhere(func(at Place) bool { return a.kind(at) != b.kind(at) }), OK
}

// RoofText returns the text of a roof.
func RoofText(r Roof) string {
	if !ValidRoof(r) {
		return ""
	}
	var text strings.Builder
	for course := range r.High {
		row := rowText(r.Tiles[course][:r.Wide])
		if r.shifted(int64(course)) {
			text.WriteString(halfMark + row + "\n")
		} else {
			text.WriteString(row + halfMark + "\n")
		}
	}
	return text.String()
}

// rowText returns the marks of kinds.
func rowText(kinds []uint8) string {
	marks := make([]byte, len(kinds))
	for k, kind := range kinds {
		marks[k] = kindMarks[kind]
	}
	return string(marks)
}

// ReadRoof returns the roof with a text.
func ReadRoof(text string) (Roof, int64) {
	body, ended := strings.CutSuffix(text, "\n")
	if !ended {
		return Roof{}, ErrSyntax
	}
	rows := strings.SplitN(body, "\n", MaxHigh+1)
	wide := len(rows[0]) - len(halfMark)
	if len(rows) > MaxHigh || wide < 1 || wide > MaxWide {
		return Roof{}, ErrSyntax
	}
	r := Roof{Wide: int8(wide), High: int8(len(rows))}
	if strings.HasPrefix(rows[0], halfMark) {
		r.Shift = 1
	}
	for course, row := range rows {
		kinds, ok := readRow(row, wide, r.shifted(int64(course)))
		if !ok {
			return Roof{}, ErrSyntax
		}
		r.Tiles[course] = kinds
	}
	return r, OK
}

// readRow returns the kinds of a course with a text, and whether it is one of so many tiles.
func readRow(row string, wide int, shifted bool) ([8]uint8, bool) {
	cut := strings.CutSuffix
	if shifted {
		cut = strings.CutPrefix
	}
	marks, ok := cut(row, halfMark)
	if !ok || len(marks) != wide {
		return [8]uint8{}, false
	}
	var kinds [8]uint8
	for k := range wide {
		kind := strings.IndexByte(kindMarks, marks[k])
		if kind < 0 {
			return [8]uint8{}, false
		}
		kinds[k] = uint8(kind)
	}
	return kinds, true
}

// checkPlace returns the error of a roof, and of a place in it.
func checkPlace(r Roof, at Place) int64 {
	if !ValidRoof(r) {
		return ErrInvalid
	}
	if !r.has(at) {
		return ErrRange
	}
	return OK
}

// checkKind returns the error of a roof, and of a kind.
func checkKind(r Roof, kind int64) int64 {
	if !ValidRoof(r) {
		return ErrInvalid
	}
	if kind < TiWhole || kind > TiMissing {
		return ErrRange
	}
	return OK
}

// checkCourse returns the error of a roof, and of a course of it.
func checkCourse(r Roof, course int64) int64 {
	if !ValidRoof(r) {
		return ErrInvalid
	}
	if course < 0 || course >= int64(r.High) {
		return ErrRange
	}
	return OK
}

// The methods below are for valid roofs, and for places, courses and cells that are there.

// has reports whether there is such a place; it may be any.
func (r Roof) has(at Place) bool {
	return at.Course >= 0 && at.Course < r.High && at.Tile >= 0 && at.Tile < r.Wide
}

// hasAll reports whether there are all places of a list; they may be any.
func (r Roof) hasAll(list []Place) bool {
	for _, at := range list {
		if !r.has(at) {
			return false
		}
	}
	return true
}

func (r Roof) kind(at Place) int64 {
	return int64(r.Tiles[at.Course][at.Tile])
}

// shifted may also be asked for the course behind the last one, where another roof is to go on.
func (r Roof) shifted(course int64) bool {
	return (course+int64(r.Shift))%2 == 1
}

// mended returns the roof with whole tiles alone.
func (r Roof) mended() Roof {
	r.Tiles = [8][8]uint8{}
	return r
}

// places goes through all tiles, by course, and then by index.
func (r Roof) places() iter.Seq[Place] {
	return func(yield func(Place) bool) {
		for course := range r.High {
			for tile := range r.Wide {
				if !yield(Place{Course: course, Tile: tile}) {
					return
				}
			}
		}
	}
}

// placesWhere returns the places of all tiles that are as a function tells, ordered.
func (r Roof) placesWhere(is func(Place) bool) []Place {
	var list []Place
	for at := range r.places() {
		if is(at) {
			list = append(list, at)
		}
	}
	return list
}

// placesOf returns the places of all tiles of a kind, ordered.
func (r Roof) placesOf(kind int64) []Place {
	return r.placesWhere(func(at Place) bool { return r.kind(at) == kind })
}

// cells returns the two cells that a tile covers.
func (r Roof) cells(at Place) [2]int64 {
	first := 2 * int64(at.Tile)
	if r.shifted(int64(at.Course)) {
		first++
	}
	return [2]int64{first, first + 1}
}

// across returns how many cells a course has.
func (r Roof) across() int64 {
	return 2*int64(r.Wide) + 1
}

// tileAt returns the tile that covers a cell of a course, or -1 for a half tile.
func (r Roof) tileAt(course, cell int64) int64 {
	half := r.across() - 1
	if r.shifted(course) {
		half = 0
	}
	if cell == half {
		return -1
	}
	if r.shifted(course) {
		cell--
	}
	return cell / 2
}

// kindOver returns the kind of the tile that covers a cell of a course; half tiles are whole.
func (r Roof) kindOver(course, cell int64) int64 {
	tile := r.tileAt(course, cell)
	if tile < 0 {
		return TiWhole
	}
	return int64(r.Tiles[course][tile])
}

// meeting returns the tiles of the course above or below that have a cell in common with a tile.
// Both cells of it are never in one such tile, because one of the two courses is shifted.
func (r Roof) meeting(at Place, course int8) []Place {
	if course < 0 || course >= r.High {
		return nil
	}
	var list []Place
	for _, cell := range r.cells(at) {
		if tile := r.tileAt(int64(course), cell); tile >= 0 {
			list = append(list, Place{Course: course, Tile: int8(tile)})
		}
	}
	return list
}

func (r Roof) above(at Place) []Place {
	return r.meeting(at, at.Course-1)
}

func (r Roof) below(at Place) []Place {
	return r.meeting(at, at.Course+1)
}

// along returns the tiles beside a tile in its own course.
func (r Roof) along(at Place) []Place {
	var list []Place
	for _, tile := range [2]int8{at.Tile - 1, at.Tile + 1} {
		if next := (Place{Course: at.Course, Tile: tile}); r.has(next) {
			list = append(list, next)
		}
	}
	return list
}

// beside goes through all tiles beside a tile.
func (r Roof) beside(at Place) iter.Seq[Place] {
	directions := [3]func(Roof, Place) []Place{Roof.above, Roof.along, Roof.below}
	return func(yield func(Place) bool) {
		for _, direction := range directions {
			for _, next := range direction(r, at) {
				if !yield(next) {
					return
				}
			}
		}
	}
}

// patch returns the roof in which the tiles of a patch alone have the kind inPatch; so patches are compared as values.
func (r Roof) patch(at Place) Roof {
	patch := r.mended()
	patch.Tiles[at.Course][at.Tile] = inPatch
	way := []Place{at}
walk:
	for len(way) > 0 {
		for next := range r.beside(way[len(way)-1]) {
			if r.kind(next) == r.kind(at) && patch.kind(next) != inPatch {
				patch.Tiles[next.Course][next.Tile] = inPatch
				way = append(way, next)
				continue walk
			}
		}
		way = way[:len(way)-1]
	}
	return patch
}

// runFrom returns how many tiles of a kind there are in a row, from a tile on to the right.
func (r Roof) runFrom(at Place, kind int64) int64 {
	var many int64
	for ; r.has(at) && r.kind(at) == kind; at.Tile++ {
		many++
	}
	return many
}
