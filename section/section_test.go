package section_test

import (
	"math"
	"slices"
	"strconv"
	"strings"
	"sync"
	"testing"

	"quire/api"
	"quire/section"
)

// below is numbers below all that a section or a page may have.
var below = []int{math.MinInt, math.MinInt + 1, math.MinInt32 - 1, math.MinInt32, -1 << 16, -4096, -4095, -256, -2, -1}

// above is numbers above all that a section or a page may have.
var above = []int{4097, 4098, 1 << 16, 1<<16 + 1, math.MaxInt32, 1 << 32, 1<<32 + 1, math.MaxInt - 1, math.MaxInt}

// part is a number of a section, and how far it reaches.
type part struct {
	name        string
	of          func(s *api.Section) *int
	least, most int
	why         api.Errno
}

// parts are the numbers of a section, in the order of their errors.
func parts() []part {
	return []part{
		{"W", func(s *api.Section) *int { return &s.W }, 1, 4095, api.ErrRange},
		{"H", func(s *api.Section) *int { return &s.H }, 1, 4095, api.ErrRange},
		{"Top", func(s *api.Section) *int { return &s.Top }, 0, 4095, api.ErrRange},
		{"Bottom", func(s *api.Section) *int { return &s.Bottom }, 0, 4095, api.ErrRange},
		{"Inner", func(s *api.Section) *int { return &s.Inner }, 0, 4095, api.ErrRange},
		{"Outer", func(s *api.Section) *int { return &s.Outer }, 0, 4095, api.ErrRange},
		{"Gap", func(s *api.Section) *int { return &s.Gap }, 0, 4095, api.ErrRange},
		{"Cols", func(s *api.Section) *int { return &s.Cols }, 1, 8, api.ErrArg},
		{"Start", func(s *api.Section) *int { return &s.Start }, 0, 2, api.ErrArg},
		{"Balance", func(s *api.Section) *int { return &s.Balance }, 0, 1, api.ErrArg},
		{"Mirror", func(s *api.Section) *int { return &s.Mirror }, 0, 1, api.ErrArg},
	}
}

// texts are the headers and footers of a section.
func texts(s *api.Section) []*string {
	return []*string{&s.Heads[0], &s.Heads[1], &s.Heads[2], &s.Feet[0], &s.Feet[1], &s.Feet[2]}
}

func want(t *testing.T, what string, got, want any) {
	t.Helper()
	if got != want {
		t.Errorf("%s: %v, not %v", what, got, want)
	}
}

// with is a section with some of its numbers set, in words such as Cols=2.
func with(s api.Section, words string) api.Section {
	for w := range strings.FieldsSeq(words) {
		name, number, _ := strings.Cut(w, "=")
		n, e := strconv.Atoi(number)
		at := slices.IndexFunc(parts(), func(p part) bool { return p.name == name })
		if e != nil || at < 0 {
			panic(w)
		}
		*parts()[at].of(&s) = n
	}
	return s
}

// plain is the plain section with some of its numbers set.
func plain(words string) api.Section { return with(section.Plain(), words) }

// rects makes rectangles of their numbers, four by four.
func rects(numbers ...int) []api.Rect {
	var out []api.Rect
	for x := range slices.Chunk(numbers, 4) {
		out = append(out, api.Rect{X: x[0], Y: x[1], W: x[2], H: x[3]})
	}
	return out
}

// columns tells whether a page has these columns.
func columns(t *testing.T, s api.Section, page int, numbers ...int) {
	t.Helper()
	if got, e := section.Columns(s, page); e != api.OK || !slices.Equal(got, rects(numbers...)) {
		t.Errorf("columns of page %d of %+v: %v, %v, not %v", page, s, got, e, numbers)
	}
}

// ends tells whether a page's header and footer stand where they must.
func ends(t *testing.T, s api.Section, page int, head, foot api.Rect) {
	t.Helper()
	if got, e := section.Head(s, page); got != head || e != api.OK {
		t.Errorf("header of page %d of %+v: %v, %v, not %v", page, s, got, e, head)
	}
	if got, e := section.Foot(s, page); got != foot || e != api.OK {
		t.Errorf("footer of page %d of %+v: %v, %v, not %v", page, s, got, e, foot)
	}
}

// begins tells whether a section begins on a page behind the last one.
func begins(t *testing.T, s api.Section, last, page int) {
	t.Helper()
	if got, e := section.Begin(s, last); got != page || e != api.OK {
		t.Errorf("start %d behind %d: %d, %v, not %d", s.Start, last, got, e, page)
	}
}

// variant tells whether a page has a variant.
func variant(t *testing.T, s api.Section, page int, first bool, must int) {
	t.Helper()
	if got, e := section.Variant(s, page, first); got != must || e != api.OK {
		t.Errorf("variant of page %d, %v, of %q and %q: %d, %v, not %d", page, first, s.Heads, s.Feet, got, e, must)
	}
}

// untold tells whether nothing but an error is told of a page.
func untold(t *testing.T, what string, s api.Section, page int, why api.Errno) {
	t.Helper()
	if c, e := section.Columns(s, page); len(c) != 0 || e != why {
		t.Errorf("%s: columns of page %d: %v, %v, not %v", what, page, c, e, why)
	}
	if r, e := section.Head(s, page); r != (api.Rect{}) || e != why {
		t.Errorf("%s: header of page %d: %v, %v, not %v", what, page, r, e, why)
	}
	if r, e := section.Foot(s, page); r != (api.Rect{}) || e != why {
		t.Errorf("%s: footer of page %d: %v, %v, not %v", what, page, r, e, why)
	}
	for _, first := range []bool{false, true} {
		if v, e := section.Variant(s, page, first); v != 0 || e != why {
			t.Errorf("%s: variant of page %d, %v: %v, %v, not %v", what, page, first, v, e, why)
		}
	}
}

// unbegun tells whether Begin answers an error, and no page.
func unbegun(t *testing.T, what string, s api.Section, last int, why api.Errno) {
	t.Helper()
	if n, e := section.Begin(s, last); n != 0 || e != why {
		t.Errorf("%s: begin behind %d: %v, %v, not %v", what, last, n, e, why)
	}
}

// refused tells whether all calls answer a section's error, of pages that may be and of others.
func refused(t *testing.T, what string, s api.Section, why api.Errno) {
	t.Helper()
	want(t, what, section.Check(s), why)
	for _, page := range []int{math.MinInt, -1, 0, 1, 2, 4096, 4097, math.MaxInt} {
		untold(t, what, s, page, why)
		unbegun(t, what, s, page, why)
	}
}

// taken tells whether a section may be.
func taken(t *testing.T, what string, s api.Section) {
	t.Helper()
	want(t, what, section.Check(s), api.OK)
	for _, page := range []int{1, 2, 4096} {
		if c, e := section.Columns(s, page); len(c) != s.Cols || e != api.OK {
			t.Errorf("%s: columns of page %d: %v, %v", what, page, c, e)
		}
	}
}

// TestExamples: the chapter's table, row by row.
func TestExamples(t *testing.T) {
	columns(t, section.Plain(), 1, 30, 40, 240, 320)

	two := plain("Cols=2 Inner=20 Mirror=1")
	columns(t, two, 1, 20, 40, 120, 320, 150, 40, 120, 320)
	columns(t, two, 2, 30, 40, 120, 320, 160, 40, 120, 320)

	ends(t, section.Plain(), 1, api.Rect{X: 30, Y: 20, W: 240, H: 20}, api.Rect{X: 30, Y: 360, W: 240, H: 20})

	begins(t, section.Plain(), 3, 4)
	begins(t, plain("Start=1"), 3, 5)
	begins(t, plain("Start=1"), 4, 5)

	first := section.Plain()
	first.Heads[0] = "x"
	variant(t, section.Plain(), 1, true, 1)
	variant(t, first, 1, true, 0)
	variant(t, first, 2, false, 2)

	untold(t, "page 0", section.Plain(), 0, api.ErrRange)
	refused(t, "nine columns", plain("Cols=9"), api.ErrArg)
	refused(t, "W 60", plain("W=60"), api.ErrRange)
}

// TestPlain: P5.1, what the plain section is, and that it may be.
func TestPlain(t *testing.T) {
	must := api.Section{W: 300, H: 400, Top: 40, Bottom: 40, Inner: 30, Outer: 30, Cols: 1, Gap: 10}
	want(t, "plain", section.Plain(), must)
	taken(t, "plain", section.Plain())
	s := section.Plain()
	s.W, s.Heads[0], s.Feet[2] = 1, "x", "y"
	want(t, "plain, behind a change", section.Plain(), must)
}

// TestEachNumber: P5.1, each number at its bounds, one past them, and far past.
func TestEachNumber(t *testing.T) {
	for _, p := range parts() {
		s := section.Plain()
		for _, n := range slices.Concat(below, []int{p.least - 1, p.most + 1}, above) {
			*p.of(&s) = n
			refused(t, p.name+" "+strconv.Itoa(n), s, p.why)
		}
	}
	for _, words := range []string{
		"W=4095", "H=4095", "Top=0", "Bottom=0", "Inner=0", "Outer=0", "Gap=0",
		"Cols=1", "Cols=8", "Start=0", "Start=1", "Start=2", "Balance=0", "Balance=1", "Mirror=0", "Mirror=1",
		"Gap=4095", "Gap=4094",
		"W=4095 H=4095 Top=2000 Bottom=2000 Inner=2000 Outer=2000",
		"W=4095 Inner=4055", "W=4095 Outer=4055", "H=4095 Top=4035", "H=4095 Bottom=4035",
		"W=10 Inner=0 Outer=0", "H=20 Top=0 Bottom=0",
		"W=4095 Cols=2 Inner=0 Outer=0 Gap=4075", "W=4095 Cols=8 Inner=0 Outer=0 Gap=573",
	} {
		taken(t, words, plain(words))
	}
	// Within their bounds, and yet too much for columns, which is told as late as it must be: behind ErrArg.
	for _, words := range []string{
		"W=1", "H=1", "Top=4095", "Bottom=4095", "Inner=4095", "Outer=4095", "Gap=4095 Cols=2",
		"W=4095 Inner=4095 Outer=0", "W=4095 Inner=4095 Outer=4095", "H=4095 Top=4095 Bottom=4095",
		"W=1 H=1 Top=4095 Bottom=4095 Inner=4095 Outer=4095 Gap=4095 Cols=8",
	} {
		refused(t, words, plain(words), api.ErrRange)
		refused(t, words+" Mirror=2", plain(words+" Mirror=2"), api.ErrArg)
	}
	for _, words := range []string{"W=0", "W=4096", "H=0", "H=4096", "Top=-1", "Top=4096", "Gap=-1", "Gap=4096"} {
		refused(t, words+" Mirror=2", plain(words+" Mirror=2"), api.ErrRange)
	}
}

// TestZero: P5.1, a section of zeros has W out of its bounds.
func TestZero(t *testing.T) {
	refused(t, "zero", api.Section{}, api.ErrRange)
	refused(t, "W alone", api.Section{W: 300}, api.ErrRange)
	refused(t, "no columns", api.Section{W: 300, H: 400}, api.ErrArg)
	taken(t, "one column", api.Section{W: 300, H: 400, Cols: 1})
}

// TestColumnsAreBigEnough: P5.1, columns 9 and 10 wide, 19 and 20 high, however the room comes about.
func TestColumnsAreBigEnough(t *testing.T) {
	for cols := 1; cols <= 8; cols++ {
		for _, gap := range []int{0, 1, 10, 100} {
			for _, margin := range []int{0, 1, 30} {
				s := plain("Top=0 Bottom=0")
				s.Cols, s.Gap, s.Inner, s.Outer = cols, gap, margin, 2*margin
				s.W = 3*margin + gap*(cols-1) + 10*cols
				what := strconv.Itoa(cols) + " columns"
				taken(t, what+", 10 wide", s)
				s.W--
				refused(t, what+", 9 wide", s, api.ErrRange)
				s.W += cols
				taken(t, what+", 10 wide and all but one more", s)
				s.W = 1
				refused(t, what+", not wide at all", s, api.ErrRange)
			}
		}
	}
	for _, words := range []string{"Top=0 Bottom=0", "Top=40 Bottom=0", "Top=0 Bottom=40", "Top=7 Bottom=9"} {
		s := plain(words)
		s.H = s.Top + s.Bottom + 20
		taken(t, words+", 20 high", s)
		s.H--
		refused(t, words+", 19 high", s, api.ErrRange)
		s.H = 1
		refused(t, words+", 1 high", s, api.ErrRange)
	}
	refused(t, "too narrow and too low", plain("W=60 H=90"), api.ErrRange)
}

// TestHeadsAndFeetAreShort: P5.1, headers and footers of 100 and of 101 bytes.
func TestHeadsAndFeetAreShort(t *testing.T) {
	s := section.Plain()
	for i := range texts(&s) {
		for n := range 101 {
			s = section.Plain()
			*texts(&s)[i] = strings.Repeat("x", n)
			taken(t, strconv.Itoa(n)+" bytes", s)
		}
		for _, n := range []int{101, 102, 200, 255, 256, 356, 1 << 16, 1<<16 + 100} {
			s = section.Plain()
			*texts(&s)[i] = strings.Repeat("x", n)
			refused(t, strconv.Itoa(n)+" bytes", s, api.ErrLong)
			*texts(&s)[i] = strings.Repeat("\x00", n)
			refused(t, strconv.Itoa(n)+" wrong bytes", s, api.ErrLong)
		}
	}
	for _, x := range texts(&s) {
		*x = strings.Repeat("x", 100)
	}
	taken(t, "all of 100 bytes", s)
}

// TestBytesOfHeadsAndFeet: P5.1, each byte there is, alone and at the ends of others.
func TestBytesOfHeadsAndFeet(t *testing.T) {
	for i := range 6 {
		for b := range 256 {
			good := b >= 33 && b <= 126 || b == 32 || b == 3
			for _, around := range []string{"", "a", " ", "\x03", strings.Repeat("~", 49)} {
				for _, text := range []string{string([]byte{byte(b)}) + around, around + string([]byte{byte(b)}), around + string([]byte{byte(b)}) + around} {
					s := section.Plain()
					*texts(&s)[i] = text
					if good {
						want(t, "byte "+strconv.Itoa(b), section.Check(s), api.OK)
					} else {
						want(t, "byte "+strconv.Itoa(b), section.Check(s), api.ErrBytes)
					}
				}
			}
		}
	}
	for i := range 6 {
		for _, text := range []string{"\t", "\n", "\x1f", "\x01", "\x02", "\x04", "\x00", "\x7f", "é", "page \x03\n", "\xff\xfe"} {
			s := section.Plain()
			*texts(&s)[i] = text
			refused(t, strconv.Quote(text), s, api.ErrBytes)
		}
	}
}

// TestOrderOfErrors: P5.1 and rule 1, of each two faults the one that is named first.
func TestOrderOfErrors(t *testing.T) {
	type fault struct {
		name  string
		apply func(s *api.Section)
		why   api.Errno
	}
	var ranks [5][]fault
	for _, p := range parts() {
		rank := 0
		if p.why == api.ErrArg {
			rank = 1
		}
		for _, n := range []int{math.MinInt, p.least - 1, p.most + 1, math.MaxInt} {
			ranks[rank] = append(ranks[rank], fault{p.name, func(s *api.Section) { *p.of(s) = n }, p.why})
		}
	}
	ranks[2] = []fault{
		{"narrow", func(s *api.Section) { s.W = 69 }, api.ErrRange},
		{"low", func(s *api.Section) { s.H = 99 }, api.ErrRange},
	}
	for i := range 6 {
		ranks[3] = append(ranks[3], fault{"long", func(s *api.Section) { *texts(s)[i] = strings.Repeat("x", 101) }, api.ErrLong})
		ranks[4] = append(ranks[4], fault{"bytes", func(s *api.Section) { *texts(s)[i] = "\t" }, api.ErrBytes})
	}
	for i, earlier := range ranks {
		for _, later := range ranks[i:] {
			for _, a := range earlier {
				for _, b := range later {
					s := section.Plain()
					b.apply(&s)
					a.apply(&s)
					want(t, a.name+" and "+b.name, section.Check(s), a.why)
					if i == 0 && a.name == b.name {
						continue
					}
					untold(t, a.name+" and "+b.name, s, 0, a.why)
					unbegun(t, a.name+" and "+b.name, s, -1, a.why)
				}
			}
		}
	}
}

// TestWildNumbersTogether: P1, a section whose numbers are all wild is refused.
func TestWildNumbersTogether(t *testing.T) {
	for _, n := range slices.Concat(below, above) {
		var s api.Section
		for _, p := range parts() {
			*p.of(&s) = n
		}
		refused(t, "all "+strconv.Itoa(n), s, api.ErrRange)
		s = with(s, "W=300 H=400 Top=40 Bottom=40 Inner=30 Outer=30 Gap=10")
		refused(t, "arguments "+strconv.Itoa(n), s, api.ErrArg)
	}
}

// TestPages: P5.2 and P5.3, of which pages something is told.
func TestPages(t *testing.T) {
	for _, words := range []string{"", "Mirror=1 Cols=3 Start=1", "Start=2"} {
		s := plain(words)
		for _, page := range slices.Concat(below, []int{0}, above) {
			untold(t, words, s, page, api.ErrRange)
		}
		for _, last := range slices.Concat(below, above) {
			unbegun(t, words, s, last, api.ErrRange)
		}
	}
	for _, page := range []int{1, 2, 3, 4095, 4096} {
		columns(t, section.Plain(), page, 30, 40, 240, 320)
	}
	columns(t, plain("Inner=20 Mirror=1"), 4095, 20, 40, 250, 320)
	columns(t, plain("Inner=20 Mirror=1"), 4096, 30, 40, 250, 320)
}

// TestColumns: P5.2, columns of one to eight, with what is left of the width at the right.
func TestColumns(t *testing.T) {
	columns(t, plain("Cols=2"), 1, 30, 40, 115, 320, 155, 40, 115, 320)
	columns(t, plain("Cols=3"), 1, 30, 40, 73, 320, 113, 40, 73, 320, 196, 40, 73, 320)
	columns(t, plain("Cols=3 Gap=0"), 1, 30, 40, 80, 320, 110, 40, 80, 320, 190, 40, 80, 320)
	columns(t, plain("Cols=2 W=301"), 1, 30, 40, 115, 320, 155, 40, 115, 320)
	columns(t, plain("Cols=2 W=302"), 1, 30, 40, 116, 320, 156, 40, 116, 320)
	columns(t, plain("Cols=1 Gap=4095"), 1, 30, 40, 240, 320)
	columns(t, plain("Cols=8 W=87 Inner=0 Outer=0 Gap=1"), 1,
		0, 40, 10, 320, 11, 40, 10, 320, 22, 40, 10, 320, 33, 40, 10, 320,
		44, 40, 10, 320, 55, 40, 10, 320, 66, 40, 10, 320, 77, 40, 10, 320)
	columns(t, plain("W=4095 H=4095 Top=0 Bottom=0 Inner=0 Outer=0"), 1, 0, 0, 4095, 4095)
	columns(t, plain("W=10 H=20 Top=0 Bottom=0 Inner=0 Outer=0"), 1, 0, 0, 10, 20)
	columns(t, plain("Top=11 Bottom=22 Inner=33 Outer=44"), 1, 33, 11, 223, 367)
}

// TestTurnedPages: P5.2, even pages are turned if Mirror is 1, and then only.
func TestTurnedPages(t *testing.T) {
	for page := 1; page <= 4096; page++ {
		columns(t, plain("Inner=20 Outer=50 Mirror=0"), page, 20, 40, 230, 320)
		if page%2 == 0 {
			columns(t, plain("Inner=20 Outer=50 Mirror=1"), page, 50, 40, 230, 320)
		} else {
			columns(t, plain("Inner=20 Outer=50 Mirror=1"), page, 20, 40, 230, 320)
		}
	}
	s := plain("Inner=20 Outer=50 Mirror=1 Cols=3 Gap=5 Top=9 Bottom=9")
	ends(t, s, 1, api.Rect{X: 20, Y: 4, W: 229, H: 5}, api.Rect{X: 20, Y: 391, W: 229, H: 4})
	ends(t, s, 2, api.Rect{X: 50, Y: 4, W: 229, H: 5}, api.Rect{X: 50, Y: 391, W: 229, H: 4})
	s.Mirror = 0
	ends(t, s, 2, api.Rect{X: 20, Y: 4, W: 229, H: 5}, api.Rect{X: 20, Y: 391, W: 229, H: 4})
}

// TestHeadAndFoot: P5.2, halves of margins are rounded down, and headers and footers reach over the columns, not over the page.
func TestHeadAndFoot(t *testing.T) {
	ends(t, plain("Top=0 Bottom=0"), 1, api.Rect{X: 30, Y: 0, W: 240, H: 0}, api.Rect{X: 30, Y: 400, W: 240, H: 0})
	ends(t, plain("Top=1 Bottom=1"), 1, api.Rect{X: 30, Y: 0, W: 240, H: 1}, api.Rect{X: 30, Y: 399, W: 240, H: 0})
	ends(t, plain("Top=2 Bottom=2"), 1, api.Rect{X: 30, Y: 1, W: 240, H: 1}, api.Rect{X: 30, Y: 398, W: 240, H: 1})
	ends(t, plain("Top=41 Bottom=43"), 1, api.Rect{X: 30, Y: 20, W: 240, H: 21}, api.Rect{X: 30, Y: 357, W: 240, H: 21})
	ends(t, plain("Cols=3"), 1, api.Rect{X: 30, Y: 20, W: 239, H: 20}, api.Rect{X: 30, Y: 360, W: 239, H: 20})
	ends(t, plain("Cols=7 Gap=3 Inner=1 Outer=2"), 1, api.Rect{X: 1, Y: 20, W: 291, H: 20}, api.Rect{X: 1, Y: 360, W: 291, H: 20})
}

// TestBegin: P5.3, behind odd and even pages, and behind none.
func TestBegin(t *testing.T) {
	for last := 0; last <= 4096; last++ {
		begins(t, plain("Start=0"), last, last+1)
		if last%2 == 0 {
			begins(t, plain("Start=1"), last, last+1)
			begins(t, plain("Start=2"), last, last+2)
		} else {
			begins(t, plain("Start=1"), last, last+2)
			begins(t, plain("Start=2"), last, last+1)
		}
	}
	begins(t, plain("Start=1"), 0, 1)
	begins(t, plain("Start=2"), 0, 2)
	begins(t, plain("Start=0"), 4096, 4097)
	begins(t, plain("Start=1"), 4096, 4097)
	begins(t, plain("Start=2"), 4096, 4098)
	begins(t, plain("Start=2 Mirror=1 Balance=1 Cols=2"), 1, 2)
}

// TestVariant: P5.3, each variant, by all ways in which headers and footers may be empty or not.
func TestVariant(t *testing.T) {
	for bits := range 64 {
		s := section.Plain()
		for i, x := range texts(&s) {
			if bits>>i&1 == 1 {
				*x = "x"
			}
		}
		for _, page := range []int{1, 2, 3, 4, 4095, 4096} {
			must := 2 - page%2
			variant(t, s, page, false, must)
			if s.Heads[0] != "" || s.Feet[0] != "" {
				must = 0
			}
			variant(t, s, page, true, must)
		}
	}
	for _, text := range []string{" ", "\x03", "0"} {
		s := plain("Mirror=1")
		s.Feet[0] = text
		variant(t, s, 2, true, 0)
		variant(t, s, 3, false, 1)
	}
}

// TestAnswersAreNewMemory: rule 4, columns that are changed, their spare room too, change neither other answers nor later ones.
func TestAnswersAreNewMemory(t *testing.T) {
	s := plain("Cols=2 Inner=20 Mirror=1")
	a, _ := section.Columns(s, 1)
	b, _ := section.Columns(s, 1)
	for i := range a[:cap(a)] {
		a[:cap(a)][i] = api.Rect{X: -1, Y: -2, W: -3, H: -4}
	}
	if !slices.Equal(b, rects(20, 40, 120, 320, 150, 40, 120, 320)) {
		t.Errorf("columns have become %v", b)
	}
	columns(t, s, 1, 20, 40, 120, 320, 150, 40, 120, 320)
	columns(t, s, 2, 30, 40, 120, 320, 160, 40, 120, 320)
	ends(t, s, 1, api.Rect{X: 20, Y: 20, W: 250, H: 20}, api.Rect{X: 20, Y: 360, W: 250, H: 20})
}

// TestSectionIsLeft: rule 4, the section that was handed in is as it was.
func TestSectionIsLeft(t *testing.T) {
	s := plain("Cols=3 Mirror=1 Start=2")
	for i, x := range texts(&s) {
		*x = strings.Repeat("x", i)
	}
	was := s
	section.Check(s)
	section.Columns(s, 2)
	section.Begin(s, 2)
	section.Variant(s, 2, true)
	section.Head(s, 2)
	section.Foot(s, 2)
	want(t, "section", s, was)
}

// TestNothingIsKept: P1, what a call answers hangs on its arguments alone, not on the calls ahead of it, refused ones among them.
func TestNothingIsKept(t *testing.T) {
	for range 3 {
		columns(t, section.Plain(), 1, 30, 40, 240, 320)
		refused(t, "no columns", plain("Cols=0"), api.ErrArg)
		begins(t, plain("Start=2"), 2, 4)
		begins(t, plain("Start=2"), 2, 4)
		unbegun(t, "plain", section.Plain(), 4097, api.ErrRange)
		columns(t, plain("Cols=2"), 1, 30, 40, 115, 320, 155, 40, 115, 320)
		untold(t, "plain", section.Plain(), 4097, api.ErrRange)
		variant(t, section.Plain(), 2, true, 2)
	}
}

// TestSideBySide: P1 and rule 8, calls in goroutines of their own do not see one another.
func TestSideBySide(t *testing.T) {
	var all sync.WaitGroup
	for seed := range 8 {
		all.Go(func() {
			next := chance(uint32(seed))
			for range 500 {
				compare(t, some(next), next(5000)-400)
			}
		})
	}
	all.Wait()
}
