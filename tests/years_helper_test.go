package tests

import (
	"fmt"
	"maps"
	"math"
	"regexp"
	"slices"
	"strings"

	"loop.example/g01376/impl"
)

// yearRoofs has a roof with tiles of all kinds of each size and shift.
func yearRoofs() []impl.Roof {
	var list []impl.Roof
	for i, r := range sampleRoofs() {
		if i%4 == 3 {
			list = append(list, r)
		}
	}
	return list
}

// evenAges makes ages of one number for all tiles.
func evenAges(r impl.Roof, age uint8) impl.Ages {
	var a impl.Ages
	for _, at := range placesIn(r) {
		a[at.Course][at.Tile] = age
	}
	return a
}

// someAges makes ages below a bound.
func someAges(r impl.Roof, n *numbers, bound int) impl.Ages {
	var a impl.Ages
	for _, at := range placesIn(r) {
		a[at.Course][at.Tile] = uint8(n.below(bound))
	}
	return a
}

// sampleAges has ages for a roof: all new, all alike, as old as can be, one old tile, few numbers (so that several tiles are as old as the oldest one), and many.
func sampleAges(r impl.Roof) []impl.Ages {
	n := numbers(uint64(r.Wide)*64 + uint64(r.High)*8 + uint64(r.Shift))
	one := evenAges(r, 2)
	at := placesIn(r)[n.below(len(placesIn(r)))]
	one[at.Course][at.Tile] = 60
	return []impl.Ages{{}, evenAges(r, 1), evenAges(r, 100), one, someAges(r, &n, 3), someAges(r, &n, 12), someAges(r, &n, 101)}
}

// eachAges calls a function for all roofs and all ages of the samples, with numbers that follow from these.
func eachAges(f func(r impl.Roof, a impl.Ages, n *numbers)) {
	n := numbers(111)
	for _, r := range yearRoofs() {
		for _, a := range sampleAges(r) {
			f(r, a, &n)
		}
	}
}

// badAges has ages that are not valid for a roof, by what is wrong with them.
func badAges(r impl.Roof) map[string]impl.Ages {
	list := map[string]impl.Ages{}
	change := func(what string, course, tile int, age uint8) {
		a := evenAges(r, 7)
		a[course][tile] = age
		list[what] = a
	}
	low, right := int(r.High)-1, int(r.Wide)-1
	change("101 in the first tile", 0, 0, 101)
	change("101 in the last tile", low, right, 101)
	change("255 in the first tile", 0, 0, math.MaxUint8)
	change("128 in the last tile", low, right, 128)
	for tile := right + 1; tile < 8; tile++ {
		change(fmt.Sprint("1 to the right, at ", tile), 0, tile, 1)
		change(fmt.Sprint("255 to the right of the last tile, at ", tile), low, tile, math.MaxUint8)
	}
	for course := low + 1; course < 8; course++ {
		change(fmt.Sprint("1 below, in ", course), course, 0, 1)
		change(fmt.Sprint("100 far below, in ", course), course, 7, 100)
	}
	return list
}

// redAll makes the colours of a roof that is all red.
func redAll(r impl.Roof) impl.Colours {
	var c impl.Colours
	for _, at := range placesIn(r) {
		c[at.Course] += 1 << at.Tile
	}
	return c
}

// someColours makes colours in which one of so many tiles is red.
func someColours(r impl.Roof, n *numbers, of int) impl.Colours {
	var c impl.Colours
	for _, at := range placesIn(r) {
		if n.below(of) == 0 {
			c[at.Course] += 1 << at.Tile
		}
	}
	return c
}

// someWord makes a word of so many letters.
func someWord(n *numbers, letters int) string {
	var word strings.Builder
	for range letters {
		word.WriteByte("rb"[n.below(2)])
	}
	return word.String()
}

// sampleColours has colours for a roof: all blue, all red, those of words, few and many that are red.
func sampleColours(r impl.Roof) []impl.Colours {
	n := numbers(uint64(r.Wide)*64 + uint64(r.High)*8 + uint64(r.Shift) + 7)
	list := []impl.Colours{{}, redAll(r), someColours(r, &n, 2), someColours(r, &n, 9)}
	for letters := 1; letters <= 6; letters++ {
		list = append(list, patternIn(r, someWord(&n, letters), n.below(5)))
	}
	return list
}

// badColours has colours that are not valid for a roof, by what is wrong with them.
func badColours(r impl.Roof) map[string]impl.Colours {
	list := map[string]impl.Colours{}
	change := func(what string, course, tile int) {
		c := redAll(r)
		c[course] += 1 << tile
		list[what] = c
		c = impl.Colours{}
		c[course] = 1 << tile
		list[what+" alone"] = c
	}
	for tile := int(r.Wide); tile < 8; tile++ {
		change(fmt.Sprint("red to the right, at ", tile), 0, tile)
		change(fmt.Sprint("red to the right of the last tile, at ", tile), int(r.High)-1, tile)
	}
	for course := int(r.High); course < 8; course++ {
		change(fmt.Sprint("red below, in ", course), course, 0)
		change(fmt.Sprint("red far below, in ", course), course, 7)
	}
	return list
}

// badWords has texts that are no words.
func badWords() []string {
	return []string{"", "x", "R", "B", "rx", "xr", "rxb", "r b", " r", "r ", "r\n", "\nr", "rb\x00", "r\xff", "\xffb", "rgb", "r1", "re\u0301", "\u0440", "\u0433b", "rrrrrrrrrrrrr", "bbbbbbbbbbbbb", "rbrbrbrbrbrbr", "rrrrrrrrrrrrb", "xxxxxxxxxxxxx", strings.Repeat("rb", 100)}
}

// oldestIn returns the place of the oldest tile, the first one of several, and its age; it looks from the last one on.
func oldestIn(r impl.Roof, a impl.Ages) (impl.Place, int64) {
	places := placesIn(r)
	oldest := places[len(places)-1]
	for _, at := range slices.Backward(places) {
		if a[at.Course][at.Tile] >= a[oldest.Course][oldest.Tile] {
			oldest = at
		}
	}
	return oldest, int64(a[oldest.Course][oldest.Tile])
}

// agesOf lists the ages of all tiles.
func agesOf(r impl.Roof, a impl.Ages) []int64 {
	var list []int64
	for _, at := range placesIn(r) {
		list = append(list, int64(a[at.Course][at.Tile]))
	}
	return list
}

// passYear lets a year go by, at the end of which tiles may be replaced.
func passYear(ages []int64, replaced func(i int) bool) {
	for i := range ages {
		if replaced(i) {
			ages[i] = 0
		}
		ages[i]++
	}
}

// firstOldIn goes through the years from 0 to years, and returns the first one in which a tile is older than life, or -1; at the end of each visit, which are strictly increasing, all tiles are replaced.
func firstOldIn(r impl.Roof, a impl.Ages, life, years int64, visits []int64) int64 {
	ages := agesOf(r, a)
	for year := range years + 1 {
		if slices.Max(ages) > life {
			return year
		}
		visited := len(visits) > 0 && visits[0] == year
		if visited {
			visits = visits[1:]
		}
		passYear(ages, func(i int) bool { return visited })
	}
	return -1
}

// visitsIn adds a visit ahead of each year in which a tile would be too old; none is now.
func visitsIn(r impl.Roof, a impl.Ages, life, years int64) []int64 {
	var visits []int64
	for {
		year := firstOldIn(r, a, life, years, visits)
		if year < 0 {
			return visits
		}
		visits = append(visits, year-1)
	}
}

// replacedIn counts for each visit the tiles that would be too old by the next one, tile by tile.
func replacedIn(r impl.Roof, a impl.Ages, life, years int64, visits []int64) []int64 {
	counts := make([]int64, len(visits))
	for _, age := range agesOf(r, a) {
		isNew := -age
		for i, next := range append(slices.Clone(visits), years) {
			if i > 0 && next-isNew > life {
				counts[i-1]++
				isNew = visits[i-1]
			}
		}
	}
	return counts
}

// enoughIn reports whether visits are such, and no tile is too old in any year.
func enoughIn(r impl.Roof, a impl.Ages, life, years int64, visits []int64) bool {
	for i, visit := range visits {
		if visit < 0 || visit > years || i > 0 && visit <= visits[i-1] {
			return false
		}
	}
	return firstOldIn(r, a, life, years, visits) < 0
}

// redIn reports whether a tile is red.
func redIn(c impl.Colours, at impl.Place) bool {
	return int(c[at.Course])/(1<<at.Tile)%2 == 1
}

// patternIn makes the colours of a word that is written again and again.
func patternIn(r impl.Roof, word string, step int) impl.Colours {
	written := strings.Repeat(word, 100)
	var c impl.Colours
	for _, at := range placesIn(r) {
		if written[int(at.Tile)+step*int(at.Course)] == 'r' {
			c[at.Course] += 1 << at.Tile
		}
	}
	return c
}

// offIn counts the tiles whose colours differ.
func offIn(r impl.Roof, a, b impl.Colours) int64 {
	return int64(len(placesWhere(r, func(at impl.Place) bool { return redIn(a, at) != redIn(b, at) })))
}

// nearestIn tries all words and all steps, the last ones first.
func nearestIn(r impl.Roof, c impl.Colours, words []string) (index, step, off int64) {
	off = math.MaxInt64
	for i, word := range slices.Backward(words) {
		for s := len(word) - 1; s >= 0; s-- {
			if own := offIn(r, patternIn(r, word, s), c); own <= off {
				index, step, off = int64(i), int64(s), own
			}
		}
	}
	return index, step, off
}

// everyWord has all words of so many letters, in the order of texts.
func everyWord(letters int) []string {
	list := []string{""}
	for range letters {
		var more []string
		for _, word := range list {
			more = append(more, word+"r", word+"b")
		}
		list = more
	}
	slices.Sort(list)
	return list
}

// patternOfIn tries all words of up to most letters; the empty word stands for none.
func patternOfIn(r impl.Roof, c impl.Colours, most int64) (string, int64) {
	for letters := 1; letters <= int(most); letters++ {
		for _, word := range everyWord(letters) {
			for step := range letters {
				if patternIn(r, word, step) == c {
					return word, int64(step)
				}
			}
		}
	}
	return "", 0
}

// coloursIn returns the text of colours.
func coloursIn(r impl.Roof, c impl.Colours) string {
	var text string
	for _, at := range placesIn(r) {
		if at.Tile == 0 && at.Course > 0 {
			text += "\n"
		}
		if redIn(c, at) {
			text += "r"
		} else {
			text += "b"
		}
	}
	return text + "\n"
}

// isTextOfColours reports whether a text is that of some colours.
func isTextOfColours(r impl.Roof, text string) bool {
	form := fmt.Sprintf(`\A([rb]{%d}\n){%d}\z`, r.Wide, r.High)
	return regexp.MustCompile(form).MatchString(text)
}

// upkeep has arguments of the functions about ages.
type upkeep struct {
	a           impl.Ages
	life, years int64
	visits      []int64
}

// calls has the results of all functions about ages with a code.
func (u upkeep) calls(r impl.Roof) map[string]results {
	list := map[string]results{}
	later, code := impl.Later(r, u.a, u.years)
	list["Later"] = all(later, code)
	at, age, code := impl.OldestOf(r, u.a)
	list["OldestOf"] = all(at, age, code)
	places, code := impl.TooOld(r, u.a, u.life)
	list["TooOld"] = all(places, code)
	broken, code := impl.BreakRoof(r, u.a, u.life, u.years)
	list["BreakRoof"] = all(broken, code)
	first, code := impl.FirstBreak(r, u.a, u.life)
	list["FirstBreak"] = all(first, code)
	visits, code := impl.VisitsFor(r, u.a, u.life, u.years)
	list["VisitsFor"] = all(visits, code)
	counts, code := impl.ReplacedAt(r, u.a, u.life, u.years)
	list["ReplacedAt"] = all(counts, code)
	enough, code := impl.CheckVisits(r, u.a, u.life, u.years, u.visits)
	list["CheckVisits"] = all(enough, code)
	return list
}

// isIn reports whether ages are valid for a roof that is.
func (u upkeep) isIn(r impl.Roof) bool {
	for course, row := range u.a {
		for tile, age := range row {
			isTile := course < int(r.High) && tile < int(r.Wide)
			if age > 100 || age > 0 && !isTile {
				return false
			}
		}
	}
	return true
}

// code returns the code that a function about ages has to return if the roof is valid.
func (u upkeep) code(r impl.Roof, name string) int64 {
	if !u.isIn(r) {
		return impl.ErrInvalid
	}
	_, oldest := oldestIn(r, u.a)
	hasLife, hasYears := 1 <= u.life && u.life <= 100, 0 <= u.years && u.years <= 200
	switch name {
	case "OldestOf":
		return impl.OK
	case "Later":
		hasLife, hasYears = true, 0 <= u.years && u.years <= 100
	case "TooOld", "FirstBreak":
		hasYears = true
	}
	switch {
	case !hasLife || !hasYears:
		return impl.ErrRange
	case name == "Later" && oldest+u.years > 100, name == "CheckVisits" && len(u.visits) > 200:
		return impl.ErrLimit
	case (name == "VisitsFor" || name == "ReplacedAt") && oldest > u.life:
		return impl.ErrNotFound
	}
	return impl.OK
}

// painting has arguments of the functions about colours and words.
type painting struct {
	c, other   impl.Colours
	word, text string
	step, most int64
	words      []string
}

// calls has the results of all functions about colours and words with a code.
func (p painting) calls(r impl.Roof) map[string]results {
	list := map[string]results{}
	made, code := impl.MakePattern(r, p.word, p.step)
	list["MakePattern"] = all(made, code)
	red, code := impl.CountColour(r, p.c)
	list["CountColour"] = all(red, code)
	off, code := impl.OffBy(r, p.c, p.other)
	list["OffBy"] = all(off, code)
	index, step, least, code := impl.NearestPattern(r, p.c, p.words)
	list["NearestPattern"] = all(index, step, least, code)
	word, step, code := impl.PatternOf(r, p.c, p.most)
	list["PatternOf"] = all(word, step, code)
	mirror, code := impl.MirrorColours(r, p.c)
	list["MirrorColours"] = all(mirror, code)
	read, code := impl.ReadColours(r, p.text)
	list["ReadColours"] = all(read, code)
	return list
}

// areIn reports whether colours are valid for a roof that is.
func areIn(r impl.Roof, c impl.Colours) bool {
	for course, row := range c {
		for tile := range 8 {
			isTile := course < int(r.High) && tile < int(r.Wide)
			if row>>tile%2 == 1 && !isTile {
				return false
			}
		}
	}
	return true
}

func isWord(text string) bool {
	return regexp.MustCompile(`\A[rb]{1,12}\z`).MatchString(text)
}

// code returns the code that a function about colours or words has to return if the roof is valid.
func (p painting) code(r impl.Roof, name string) int64 {
	wrong, out := false, false
	switch name {
	case "MakePattern":
		wrong, out = !isWord(p.word), p.step < 0 || p.step > 12
	case "OffBy":
		wrong = !areIn(r, p.c) || !areIn(r, p.other)
	case "CountColour", "MirrorColours", "PatternOf", "NearestPattern":
		wrong, out = !areIn(r, p.c), name == "PatternOf" && (p.most < 1 || p.most > 5)
	}
	if name == "NearestPattern" && slices.ContainsFunc(p.words, func(word string) bool { return !isWord(word) }) {
		wrong = true
	}
	switch {
	case wrong:
		return impl.ErrInvalid
	case out:
		return impl.ErrRange
	}
	return p.lastCode(r, name)
}

// lastCode returns the code that a function has to return if all is valid, and in its range.
func (p painting) lastCode(r impl.Roof, name string) int64 {
	switch name {
	case "NearestPattern":
		if len(p.words) > 20 {
			return impl.ErrLimit
		}
		if len(p.words) == 0 {
			return impl.ErrNotFound
		}
	case "PatternOf":
		if word, _ := patternOfIn(r, p.c, p.most); word == "" {
			return impl.ErrNotFound
		}
	case "ReadColours":
		if !isTextOfColours(r, p.text) {
			return impl.ErrSyntax
		}
	}
	return impl.OK
}

// yearCalls has the results of all functions of chapter 7 with a code.
func yearCalls(r impl.Roof, u upkeep, p painting) map[string]results {
	list := u.calls(r)
	maps.Copy(list, p.calls(r))
	return list
}

// someUpkeep makes arguments about ages that are all as told.
func someUpkeep(r impl.Roof, a impl.Ages, n *numbers) upkeep {
	u := upkeep{a: a, life: int64(n.below(100) + 1), years: int64(n.below(201)), visits: make([]int64, 0, 250)}
	for visit := int64(n.below(20)); visit <= u.years; visit += int64(n.below(30) + 1) {
		u.visits = append(u.visits, visit)
	}
	return u
}

// somePainting makes arguments about colours and words that are all as told.
func somePainting(r impl.Roof, n *numbers) painting {
	p := painting{c: someColours(r, n, 2), other: someColours(r, n, 3), word: someWord(n, n.below(12)+1), step: int64(n.below(13)), most: int64(n.below(5) + 1), words: make([]string, 0, 30)}
	for range n.below(20) + 1 {
		p.words = append(p.words, someWord(n, n.below(12)+1))
	}
	if n.below(2) == 0 {
		p.c = patternIn(r, p.words[0], n.below(4))
	}
	p.text = coloursIn(r, p.other)
	return p
}
