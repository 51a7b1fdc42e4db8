package tests

import (
	"fmt"
	"maps"
	"math"
	"slices"
	"strings"
	"testing"

	"loop.example/g01376/impl"
)

// everySpan has numbers of years, lives, steps and letters, in their ranges and out of them.
func everySpan() []int64 {
	return append(farNumbers(), 0, 1, 2, 5, 6, 12, 13, 99, 100, 101, 199, 200, 201, 1<<32+5, -1<<32+5)
}

// someVisits has lists that are visits, and lists that are not.
func someVisits() [][]int64 {
	return [][]int64{nil, {3, 13, 23}, {-1}, {5, 5}, {math.MinInt64, math.MaxInt64}, everyYear(0, 199), everyYear(0, 200), make([]int64, 300)}
}

// someWords has lists of words, too many of them, none, and lists with texts that are no words.
func someWords() [][]string {
	many := slices.Repeat([]string{"rb", "b"}, 10)
	return [][]string{nil, {"r"}, {"rb", "rbb"}, many, append(slices.Clone(many), "r"), {""}, {"r", "x"}, append(slices.Clone(many), "r", "rx"), make([]string, 21), {"rrrrrrrrrrrrr"}}
}

// checkYears asserts that each function returns the code that it has to, and zero values beside one that is not OK.
func checkYears(t *testing.T, r impl.Roof, u upkeep, p painting) {
	t.Helper()
	for name, got := range u.calls(r) {
		if want := u.code(r, name); got.code() != want || want != impl.OK && !got.isNothing() {
			t.Errorf("%s of %v and %v: got %v, want the code %d", name, r, u, got, want)
		}
	}
	for name, got := range p.calls(r) {
		if want := p.code(r, name); got.code() != want || want != impl.OK && !got.isNothing() {
			t.Errorf("%s of %v and %v: got %v, want the code %d", name, r, p, got, want)
		}
	}
}

// P1: a roof that is not valid is refused ahead of all other errors, whatever the other arguments are.
func TestPromise1InvalidRoofsInYears(t *testing.T) {
	for what, bad := range badRoofs() {
		for i, number := range everySpan() {
			other := everySpan()[(i*7+3)%len(everySpan())]
			u := upkeep{a: impl.Ages{{uint8(i * 9)}}, life: number, years: other, visits: someVisits()[i%8]}
			p := painting{c: impl.Colours{uint8(i % 3)}, other: impl.Colours{uint8(i % 2)}, word: []string{"r", "x", ""}[i%3], text: []string{"..-\n", "rb\n", ""}[i%3], step: number, most: other, words: someWords()[i%10]}
			for name, got := range yearCalls(bad, u, p) {
				fails(t, name+" with "+what, impl.ErrInvalid, got)
			}
		}
	}
}

// P1: ages that are not valid are refused ahead of all other errors.
func TestPromise1InvalidAgesFirst(t *testing.T) {
	for _, r := range []impl.Roof{roof(".-"), roof("x.-", "-so", "o.-"), {Wide: 8, High: 8, Shift: 1}, {Wide: 8, High: 3}, {Wide: 3, High: 8}} {
		for what, bad := range badAges(r) {
			for i, number := range everySpan() {
				u := upkeep{a: bad, life: number, years: everySpan()[(i*5+1)%len(everySpan())], visits: someVisits()[i%8]}
				for name, got := range u.calls(r) {
					fails(t, name+" with "+what, impl.ErrInvalid, got)
				}
			}
		}
	}
}

// P1: colours and words that are not valid are refused ahead of all other errors.
func TestPromise1InvalidColoursFirst(t *testing.T) {
	for _, r := range []impl.Roof{roof(".-"), roof("...-", "-..."), {Wide: 8, High: 7, Shift: 1}, {Wide: 7, High: 8}} {
		for what, bad := range badColours(r) {
			for i, number := range everySpan() {
				p := painting{c: bad, word: "rb", step: number, most: number, words: someWords()[i%10]}
				got := p.calls(r)
				for _, name := range []string{"CountColour", "OffBy", "NearestPattern", "PatternOf", "MirrorColours"} {
					fails(t, name+" with "+what, impl.ErrInvalid, got[name])
				}
				off, code := impl.OffBy(r, impl.Colours{}, bad)
				fails(t, "the other way with "+what, impl.ErrInvalid, all(off, code))
			}
		}
		for _, bad := range badWords() {
			for _, step := range everySpan() {
				c, code := impl.MakePattern(r, bad, step)
				fails(t, fmt.Sprintf("pattern of %q", bad), impl.ErrInvalid, all(c, code))
			}
			for _, words := range [][]string{{bad}, {"r", bad}, {bad, "r"}, append(slices.Repeat([]string{"r"}, 20), bad), append([]string{bad}, slices.Repeat([]string{"r"}, 20)...)} {
				index, step, off, code := impl.NearestPattern(r, impl.Colours{}, words)
				fails(t, fmt.Sprintf("nearest of %q", words), impl.ErrInvalid, all(index, step, off, code))
			}
		}
	}
}

// P1: several errors at once: the first one, by the document's order, is returned, with zero values beside it.
func TestPromise1OrderOfErrorsInYears(t *testing.T) {
	r := roof("x.-", "-so")
	ages := []impl.Ages{{}, {{3, 7}, {0, 1}}, {{100}}, {{101}}, {{1, 2, 3}}, {2: {1}}}
	colours := []impl.Colours{{}, {3, 3}, {1, 2}, {4}, {2: 1}}
	texts := []string{"rb\nbr\n", "rb\nbr", "", "bb\nbb\n", "x.-\n-so\n"}
	words := []string{"r", "rbb", "", "x", "rrrrrrrrrrrrr"}
	for i, life := range everySpan() {
		for j, years := range everySpan() {
			for k, a := range ages {
				u := upkeep{a: a, life: life, years: years, visits: someVisits()[(i+j+k)%8]}
				p := painting{c: colours[(i+k)%5], other: colours[(j+k)%5], word: words[(i+j)%5], text: texts[(i+k)%5], step: life, most: years, words: someWords()[(i+3*j+k)%10]}
				checkYears(t, r, u, p)
			}
		}
	}
}

// P1: the limits may be reached exactly.
func TestPromise1LimitsOfYears(t *testing.T) {
	r := roof("x.-", "-so")
	for _, life := range []int64{0, 1, 100, 101, -1, math.MinInt64, math.MaxInt64, 1<<32 + 1} {
		for _, years := range []int64{-1, 0, 100, 101, 200, 201, math.MinInt64, math.MaxInt64, 1 << 32} {
			for _, a := range []impl.Ages{{}, {{0, 1}}, {{100}}} {
				for _, many := range []int64{0, 199, 200, 201} {
					checkYears(t, r, upkeep{a: a, life: life, years: years, visits: everyYear(0, many-1)}, painting{word: "r", words: []string{"r"}, most: 1, text: "bb\nbb\n"})
				}
			}
		}
	}
	for _, many := range []int{0, 1, 19, 20, 21} {
		for _, letters := range []int{1, 11, 12, 13} {
			for number := int64(-1); number <= 14; number++ {
				p := painting{word: strings.Repeat("r", letters), words: slices.Repeat([]string{strings.Repeat("b", letters)}, many), step: number, most: number, text: "bb\nbb\n"}
				checkYears(t, r, upkeep{life: 1}, p)
			}
		}
	}
}

// P1: every function returns, for arguments of all kinds, with zero values beside an error.
func TestPromise1AllArgumentsOfYears(t *testing.T) {
	n := numbers(131)
	spans := everySpan()
	for i, r := range yearRoofs() {
		for j, a := range sampleAges(r) {
			u, p := someUpkeep(r, a, &n), somePainting(r, &n)
			switch (i + j) % 5 {
			case 0:
				u.life, u.years = spans[n.below(len(spans))], spans[n.below(len(spans))]
				p.step, p.most = u.life, u.years
			case 1:
				u.a[n.below(8)][n.below(8)] = uint8(n.below(256))
				p.c[n.below(8)] = uint8(n.below(256))
			case 2:
				u.visits = someVisits()[n.below(8)]
				p.words, p.word = someWords()[n.below(10)], badWords()[n.below(len(badWords()))]
			case 3:
				p.other[n.below(8)] = uint8(n.below(256))
				p.text = p.text[n.below(2):] + "r"[n.below(2):]
			}
			checkYears(t, r, u, p)
		}
	}
}

// P1: every function returns for lists and texts that are as long as they can be.
func TestPromise1LongListsOfYears(t *testing.T) {
	r := impl.Roof{Wide: 8, High: 8}
	enough, code := impl.CheckVisits(r, impl.Ages{}, 1, 200, make([]int64, 900000))
	fails(t, "long visits", impl.ErrLimit, all(enough, code))
	words := slices.Repeat([]string{"r"}, 450000)
	index, step, off, code := impl.NearestPattern(r, impl.Colours{}, words)
	fails(t, "long words", impl.ErrLimit, all(index, step, off, code))
	words[len(words)-1] = "x"
	index, step, off, code = impl.NearestPattern(r, impl.Colours{}, words)
	fails(t, "the last one is none", impl.ErrInvalid, all(index, step, off, code))
	long := strings.Repeat("r", 900000)
	same(t, "a long word", impl.ValidWord(long), false)
	c, code := impl.MakePattern(r, long, 0)
	fails(t, "a long word", impl.ErrInvalid, all(c, code))
	c, code = impl.ReadColours(r, long)
	fails(t, "a long text", impl.ErrSyntax, all(c, code))
}

// P1: equal arguments have equal results, those of a second call after a change of the first results, too; and nil lists are as empty ones.
func TestPromise1EqualResultsOfYears(t *testing.T) {
	eachAges(func(r impl.Roof, a impl.Ages, n *numbers) {
		u, p := someUpkeep(r, a, n), somePainting(r, n)
		returnTheSame(t, r, func() map[string]results { return yearCalls(r, u, p) })
		v, q := u, p
		v.visits, q.words, q.word, q.text = slices.Clone(u.visits), slices.Clone(p.words), strings.Clone(p.word), strings.Clone(p.text)
		same(t, "equal arguments", yearCalls(r, v, q), yearCalls(r, u, p))
		v.visits, q.words = nil, nil
		u.visits, p.words = []int64{}, []string{}
		same(t, "nil lists", yearCalls(r, v, q), yearCalls(r, u, p))
		same(t, "valid", all(impl.ValidAges(r, a), impl.ValidColours(r, p.c), impl.ValidWord(p.word)), all(true, true, true))
		same(t, "text", impl.ColoursText(r, p.c), impl.ColoursText(r, q.c))
	})
}

// P1: no function changes visits or words, nor the room behind them, and no result shares memory with them.
func TestPromise1ListsOfYearsAreKept(t *testing.T) {
	eachAges(func(r impl.Roof, a impl.Ages, n *numbers) {
		u, p := someUpkeep(r, a, n), somePainting(r, n)
		u.visits = slices.Grow(u.visits[:0], 250)
		fill(u.visits, 55)
		u.visits = append(u.visits, 1, 20, 40)
		visits, words := slices.Clone(u.visits[:250]), slices.Clone(p.words[:30])
		for _, got := range yearCalls(r, u, p) {
			spoil(got)
		}
		same(t, "visits", u.visits[:250], visits)
		same(t, "words", p.words[:30], words)
	})
}

// checkKept asserts that with the visits that are told no tile is too old, with each one of them less, or later, some are, and that CheckVisits tells so.
func checkKept(t *testing.T, r impl.Roof, a impl.Ages, life, years int64) {
	t.Helper()
	visits, code := impl.VisitsFor(r, a, life, years)
	name := fmt.Sprint(" with the life ", life, " for ", years, " years of ", r, a)
	same(t, "code of visits"+name, code, int64(0))
	reports := func(list []int64, want bool) {
		t.Helper()
		same(t, fmt.Sprint("none is too old with ", list, name), firstOldIn(r, a, life, years, list) < 0, want)
		enough, code := impl.CheckVisits(r, a, life, years, list)
		same(t, fmt.Sprint("enough are ", list, name), all(enough, code), all(want, int64(0)))
	}
	reports(visits, true)
	for i, visit := range visits {
		reports(slices.Delete(slices.Clone(visits), i, i+1), false)
		reports(append(slices.Clone(visits[:i]), visit+1), false)
		if i+1 < len(visits) && visit+1 < visits[i+1] {
			later := slices.Clone(visits)
			later[i]++
			reports(later, false)
		}
		if visit < 0 || visit >= years || i > 0 && visit <= visits[i-1] {
			t.Errorf("visits %v%s", visits, name)
		}
	}
}

// P14: with the visits that are told no tile is too old, and with one of them less some are.
func TestPromise14Visits(t *testing.T) {
	eachAges(func(r impl.Roof, a impl.Ages, n *numbers) {
		_, oldest := oldestIn(r, a)
		for _, life := range []int64{max(oldest, 1), min(max(oldest, 1)+int64(n.below(9)), 100), 100} {
			for _, years := range []int64{0, life - oldest, life - oldest + 1, int64(n.below(100)), 200} {
				if life >= 10 || years < 40 {
					checkKept(t, r, a, life, years)
				}
			}
		}
	})
	for _, age := range []uint8{0, 1} {
		checkKept(t, roof("..-"), impl.Ages{{age}}, 1, 200)
		checkKept(t, roof("..-"), impl.Ages{{age, 1}}, 2, 200)
	}
}

// P14: of all lists of years, those that are enough are no shorter, and those that are as short have no visit later; and CheckVisits tells which are enough.
func TestPromise14AllLists(t *testing.T) {
	r := roof("..-")
	for years := range int64(9) {
		for life := int64(1); life <= 4; life++ {
			for age := range life + 1 {
				a := impl.Ages{{uint8(age), uint8(age / 2)}}
				visits, code := impl.VisitsFor(r, a, life, years)
				same(t, "code", code, int64(0))
				for set := range 1 << (years + 1) {
					list := slices.DeleteFunc(everyYear(0, years), func(year int64) bool { return set>>year&1 == 0 })
					want := firstOldIn(r, a, life, years, list) < 0
					enough, code := impl.CheckVisits(r, a, life, years, list)
					same(t, fmt.Sprint(list, " with the life ", life, " for ", years, " years of ", a), all(enough, code), all(want, int64(0)))
					if want && (len(list) < len(visits) || len(list) == len(visits) && someLater(list, visits)) {
						t.Errorf("%v are enough with the life %d for %d years of %v; got %v", list, life, years, a, visits)
					}
				}
			}
		}
	}
}

// someLater reports whether an element of a list is greater than the one at its place in another list.
func someLater(list, than []int64) bool {
	for i, year := range list {
		if year > than[i] {
			return true
		}
	}
	return false
}

// P14: if those tiles alone are replaced that would be too old by the next visit, no tile is too old in any year; without one of them that one is.
func TestPromise14Replaced(t *testing.T) {
	eachAges(func(r impl.Roof, a impl.Ages, n *numbers) {
		_, oldest := oldestIn(r, a)
		life := min(max(oldest, 1)+int64(n.below(5)), 100)
		years := min(int64(n.below(8))*life/2, 200)
		visits, _ := impl.VisitsFor(r, a, life, years)
		counts, code := impl.ReplacedAt(r, a, life, years)
		same(t, "code", code, int64(0))
		ages := agesOf(r, a)
		var replaced []int64
		for year := range years + 1 {
			same(t, fmt.Sprint("not too old in the year ", year, " with the life ", life, " of ", a), slices.Max(ages) <= life, true)
			i := slices.Index(visits, year)
			if i < 0 {
				passYear(ages, func(i int) bool { return false })
				continue
			}
			next := append(visits, years)[i+1]
			var many int64
			passYear(ages, func(i int) bool {
				due := ages[i]+next-year > life
				if due {
					many++
				}
				return due
			})
			replaced = append(replaced, many)
		}
		same(t, fmt.Sprint("replaced with the life ", life, " for ", years, " years of ", a), counts, replaced)
	})
}

// P14: the edge cases of one tile, and of 8 by 8; those of the visits are in TestVisitsOfFew, TestVisitsOfMany and TestCheckVisits.
func TestPromise14EdgeCases(t *testing.T) {
	great := impl.Roof{Wide: 8, High: 8}
	var last impl.Ages
	last[7][7] = 50
	for _, c := range []struct {
		r      impl.Roof
		a      impl.Ages
		counts []int64
	}{
		{roof(".-"), impl.Ages{{50}}, []int64{1, 1, 1}},
		{roof("-x"), impl.Ages{{50}}, []int64{1, 1, 1}},
		{great, last, []int64{1, 64, 64}},
		{great, evenAges(great, 50), []int64{64, 64, 64}},
	} {
		checkKept(t, c.r, c.a, 50, 150)
		visits, code := impl.VisitsFor(c.r, c.a, 50, 150)
		same(t, "visits", all(visits, code), all([]int64{0, 50, 100}, int64(0)))
		counts, code := impl.ReplacedAt(c.r, c.a, 50, 150)
		same(t, "replaced", all(counts, code), all(c.counts, int64(0)))
	}
}

// P14: invalid inputs: lives, years and ages that are none, and tiles that are too old now.
func TestPromise14InvalidInputs(t *testing.T) {
	r := roof("..-")
	asks := func(a impl.Ages, life, years, want int64) {
		t.Helper()
		got := upkeep{a: a, life: life, years: years}.calls(r)
		for _, name := range []string{"VisitsFor", "ReplacedAt"} {
			fails(t, fmt.Sprint(name, " with ", a, life, years), want, got[name])
		}
		if want == impl.ErrNotFound {
			same(t, "too old is no error", got["CheckVisits"], all(false, int64(0)))
			return
		}
		fails(t, fmt.Sprint("CheckVisits with ", a, life, years), want, got["CheckVisits"])
	}
	isSpan := func(number int64) bool { return 0 <= number && number <= 200 }
	for _, far := range append(slices.DeleteFunc(farNumbers(), isSpan), 201, 202) {
		asks(impl.Ages{{3, 7}}, 10, far, impl.ErrRange)
		asks(impl.Ages{{3, 7}}, far, 10, impl.ErrRange)
		asks(impl.Ages{{100}}, far, far, impl.ErrRange)
		asks(impl.Ages{{101}}, far, far, impl.ErrInvalid)
		asks(impl.Ages{{0, 0, 1}}, 10, far, impl.ErrInvalid)
	}
	for _, life := range []int64{0, -1, 101} {
		asks(impl.Ages{}, life, 0, impl.ErrRange)
		asks(impl.Ages{{100}}, life, 0, impl.ErrRange)
	}
	for _, years := range []int64{0, 1, 200} {
		asks(impl.Ages{{3, 7}}, 6, years, impl.ErrNotFound)
		asks(impl.Ages{{7, 3}}, 1, years, impl.ErrNotFound)
		asks(impl.Ages{{100, 100}}, 99, years, impl.ErrNotFound)
	}
}

// checkPattern asserts that the pattern of a word is off by 0 from itself, and is found as such.
func checkPattern(t *testing.T, r impl.Roof, word string, step int64) {
	t.Helper()
	name := fmt.Sprint("pattern of ", word, " with the step ", step, " on ", r)
	c, code := impl.MakePattern(r, word, step)
	same(t, "code of "+name, code, int64(0))
	off, code := impl.OffBy(r, c, c)
	same(t, name+" from itself", all(off, code), all(int64(0), int64(0)))
	// Steps that differ by the length of the word make the same pattern.
	i, s, least, code := impl.NearestPattern(r, c, []string{"r", "b", word, "rb"})
	same(t, "nearest to "+name, all(least, code), all(int64(0), int64(0)))
	again, code := impl.MakePattern(r, []string{"r", "b", word, "rb"}[i], s)
	same(t, "the nearest one to "+name, all(again, code), all(c, int64(0)))
	found, s, code := impl.PatternOf(r, c, 5)
	if code != impl.OK {
		same(t, name+" is not found", all(len(word) > 5, code), all(true, int64(impl.ErrNotFound)))
		return
	}
	again, code = impl.MakePattern(r, found, s)
	same(t, "what is found for "+name, all(again, code), all(c, int64(0)))
	if len(found) > len(word) || len(found) == len(word) && found > word || s >= int64(len(found)) {
		t.Errorf("%s: found %s with the step %d", name, found, s)
	}
}

// P15: a pattern is off by 0 from itself: all words of up to 5 letters, and some of up to 12, with all steps.
func TestPromise15Patterns(t *testing.T) {
	for _, r := range []impl.Roof{roof(".-"), roof("-..."), roof("...-", "-..."), {Wide: 8, High: 8}, {Wide: 5, High: 3, Shift: 1}} {
		for letters := 1; letters <= 5; letters++ {
			for _, word := range everyWord(letters) {
				for step := range int64(13) {
					checkPattern(t, r, word, step)
				}
			}
		}
	}
	n := numbers(133)
	for _, r := range yearRoofs() {
		for letters := 1; letters <= 12; letters++ {
			checkPattern(t, r, someWord(&n, letters), int64(n.below(13)))
		}
		checkPattern(t, r, someWord(&n, 12), 12)
		checkPattern(t, r, someWord(&n, 12), 0)
	}
}

// P15: colours are off by 0 from themselves alone.
func TestPromise15OffByNothing(t *testing.T) {
	eachColours(func(r impl.Roof, c impl.Colours) {
		for _, other := range sampleColours(r) {
			off, code := impl.OffBy(r, c, other)
			same(t, fmt.Sprint(c, " off ", other), all(off == 0, code), all(c == other, int64(0)))
		}
		for _, at := range placesIn(r) {
			other := c
			other[at.Course] ^= 1 << at.Tile
			off, code := impl.OffBy(r, c, other)
			same(t, fmt.Sprint(c, " off by the tile ", at), all(off, code), all(int64(1), int64(0)))
		}
	})
}

// P15: invalid inputs: no step, no word, no colours and no number of letters.
func TestPromise15InvalidInputs(t *testing.T) {
	r := roof("...-", "-...")
	for _, far := range append(farNumbers(), 13, 14) {
		c, code := impl.MakePattern(r, "rb", far)
		fails(t, fmt.Sprint("the step ", far), impl.ErrRange, all(c, code))
	}
	for _, far := range append(farNumbers(), 0, 6, 7, 12) {
		word, step, code := impl.PatternOf(r, impl.Colours{}, far)
		fails(t, fmt.Sprint(far, " letters"), impl.ErrRange, all(word, step, code))
	}
	for _, bad := range badWords() {
		c, code := impl.MakePattern(r, bad, 0)
		fails(t, fmt.Sprintf("pattern of %q", bad), impl.ErrInvalid, all(c, code))
	}
	for what, bad := range badColours(r) {
		off, code := impl.OffBy(r, bad, bad)
		fails(t, "from itself with "+what, impl.ErrInvalid, all(off, code))
	}
	index, step, off, code := impl.NearestPattern(r, impl.Colours{}, slices.Repeat([]string{"b"}, 21))
	fails(t, "21 words", impl.ErrLimit, all(index, step, off, code))
	index, step, off, code = impl.NearestPattern(r, impl.Colours{}, []string{})
	fails(t, "no words", impl.ErrNotFound, all(index, step, off, code))
}

// keepsRain asserts that rain is what comes to the gutter and what drips, and returns what drips.
func keepsRain(t *testing.T, r impl.Roof, w impl.Rain) int64 {
	t.Helper()
	rain, code := impl.RainSum(r, w)
	same(t, "code of rain", code, int64(0))
	_, gutter, code := impl.RunDown(r, w)
	same(t, "code of what runs down", code, int64(0))
	drips, code := impl.DripSum(r, w)
	same(t, "code of drips", code, int64(0))
	sum := drips
	for _, amount := range gutter {
		sum += amount
	}
	same(t, fmt.Sprint("rain on ", r), sum, rain)
	return drips
}

// ageIn returns the ages of a roof in a year, all tiles being replaced at each visit.
func ageIn(r impl.Roof, a impl.Ages, visits []int64, year int64) impl.Ages {
	last := int64(-1)
	for _, visit := range visits {
		if visit < year {
			last = visit
		}
	}
	var now impl.Ages
	for _, at := range placesIn(r) {
		age := int64(a[at.Course][at.Tile]) + year
		if last >= 0 {
			age = year - last
		}
		now[at.Course][at.Tile] = uint8(age)
	}
	return now
}

// P16: rain is what comes to the gutter and what drips, also on roofs that break in years; with the visits that are told no tile is too old, so that none breaks, and what drips is as before.
func TestPromise16RainInYears(t *testing.T) {
	eachAges(func(r impl.Roof, a impl.Ages, n *numbers) {
		w := someRain(r, n, 1001)
		drips := keepsRain(t, r, w)
		_, oldest := oldestIn(r, a)
		life := min(max(oldest, 1)+int64(n.below(20)), 100)
		years := int64(n.below(201))
		visits, code := impl.VisitsFor(r, a, life, years)
		same(t, "code of visits", code, int64(0))
		for year := int64(0); year <= years; year += int64(n.below(20) + 1) {
			now := ageIn(r, a, visits, year)
			old, code := impl.TooOld(r, now, life)
			same(t, fmt.Sprint("too old in the year ", year), all(len(old), code), all(0, int64(0)))
			kept, code := impl.BreakRoof(r, now, life, 0)
			same(t, "kept", all(kept, code), all(r, int64(0)))
			same(t, "drips as before", keepsRain(t, kept, w), drips)
			broken, code := impl.BreakRoof(r, a, life, year)
			same(t, "code of the broken roof", code, int64(0))
			keepsRain(t, broken, w)
			first, _ := impl.FirstBreak(r, a, life)
			missing, _ := impl.CountKind(broken, impl.TiMissing)
			before, _ := impl.CountKind(r, impl.TiMissing)
			if year < first {
				same(t, "not broken yet", broken, r)
			} else if before == 0 {
				same(t, "broken", missing > 0, true)
			}
		}
	})
}

// P16: with one visit less a tile of a whole roof breaks, which drips then; with all of them none does.
func TestPromise16OneVisitLess(t *testing.T) {
	for _, r := range yearRoofs() {
		r = frameOf(r)
		n := numbers(uint64(r.Wide)*8 + uint64(r.High))
		for _, life := range []int64{10, 33, 50} {
			a := someAges(r, &n, int(life)+1)
			w := evenOf(r, 9)
			visits, _ := impl.VisitsFor(r, a, life, 140)
			same(t, "some are needed", len(visits) >= 2, true)
			for i := range visits {
				fewer := slices.Delete(slices.Clone(visits), i, i+1)
				next := append(slices.Clone(visits), 140)[i+1]
				now := ageIn(r, a, fewer, min(next, visits[i]+1))
				broken, code := impl.BreakRoof(r, now, life, 0)
				same(t, "code", code, int64(0))
				same(t, fmt.Sprint("drips without the visit ", i, " of ", visits), keepsRain(t, broken, w) > 0, true)
				now = ageIn(r, a, visits, min(next, visits[i]+1))
				kept, _ := impl.BreakRoof(r, now, life, 0)
				same(t, "nothing drips with it", keepsRain(t, kept, w), int64(0))
			}
		}
	}
}

// P16, by the chapters before: a roof that breaks is told by its drips, mirrored as its colours are, and mended at a visit.
func TestPromise16OtherChapters(t *testing.T) {
	for _, r := range yearRoofs() {
		r = frameOf(r)
		n := numbers(uint64(r.Wide)*8 + uint64(r.High) + 5)
		a := someAges(r, &n, 60)
		_, oldest := oldestIn(r, a)
		broken, code := impl.BreakRoof(r, a, max(oldest-2, 1), 1)
		same(t, "code", code, int64(0))
		w := evenOf(r, 90)
		drips, _, _ := impl.RunDown(broken, w)
		explains, code := impl.Explains(broken, w, drips)
		same(t, "explains", all(explains, code), all(true, int64(0)))
		few, wrong, code := impl.FewestWrong(r, w, drips)
		same(t, "code of the fewest", code, int64(0))
		missing, _ := impl.TilesOf(broken, impl.TiMissing)
		same(t, "no more are wrong", wrong <= int64(len(missing)), true)
		again, _, _ := impl.RunDown(few, w)
		same(t, "the same drips", again, drips)
		left, code := impl.DripAfter(broken, w, missing)
		same(t, "mended", all(left, code), all(int64(0), int64(0)))
		mended, count, _ := impl.MendAll(broken)
		same(t, "all are mended", all(mended, count), all(r, int64(len(missing))))
		c := redMissing(broken)
		red, _ := impl.CountColour(broken, c)
		same(t, "red ones are missing", red, int64(len(missing)))
		mirrored, _ := impl.MirrorRoof(broken)
		mirror, code := impl.MirrorColours(broken, c)
		same(t, "mirrored", all(mirror, code), all(redMissing(mirrored), int64(0)))
	}
}

// redMissing makes the colours in which the tiles that are missing are red.
func redMissing(r impl.Roof) impl.Colours {
	var c impl.Colours
	for _, at := range placesIn(r) {
		if kindIn(r, at) == impl.TiMissing {
			c[at.Course] += 1 << at.Tile
		}
	}
	return c
}

// P16: invalid inputs of rain and of visits at once.
func TestPromise16InvalidInputs(t *testing.T) {
	for what, bad := range badRoofs() {
		calls := callsWithRain(bad, impl.Rain{}, impl.Place{}, 1)
		maps.Copy(calls, yearCalls(bad, upkeep{life: 1}, painting{word: "r", words: []string{"r"}, most: 1}))
		for name, got := range calls {
			fails(t, name+" with "+what, impl.ErrInvalid, got)
		}
	}
	r := roof("..-")
	for what, bad := range badRains(r) {
		broken, code := impl.BreakRoof(r, impl.Ages{{3, 7}}, 5, 0)
		same(t, "broken", all(broken, code), all(roof(".o-"), int64(0)))
		sum, code := impl.DripSum(broken, bad)
		fails(t, "drips with "+what, impl.ErrInvalid, all(sum, code))
	}
}
