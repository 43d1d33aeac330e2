package first_test

import (
	"math"
	"slices"
	"strings"
	"sync"
	"testing"

	"quire/api"
	"quire/first"
	"quire/item"
)

// far is numbers that are out of all bounds.
var far = []int{math.MinInt, math.MinInt + 1, math.MinInt32 - 1, math.MinInt32, -1 << 20, -1 << 16, -4096, -2, 1 << 16, 1 << 20, math.MaxInt32, math.MaxInt32 + 1, 1 << 32, 1<<32 + 1, math.MaxInt - 1, math.MaxInt}

// of makes the items of a paragraph of Size 8 with one span.
func of(text string) []api.Item { return made(text, 0) }

// hyphened makes the items of such a paragraph, whose words may be parted.
func hyphened(text string) []api.Item { return made(text, 1) }

func made(text string, hyphen int) []api.Item {
	p := api.Para{Text: text, P: api.Props{Size: 8, Pitch: 12, Orphan: 1, Widow: 1, Hyphen: hyphen}}
	if text != "" {
		p.Spans = []api.Span{{Len: len(text)}}
	}
	for range strings.Count(text, "\x02") {
		p.Marks = append(p.Marks, "1")
	}
	l, _ := item.Items(p)
	return l
}

func box(w int) api.Item { return api.Item{Kind: api.Box, W: w} }

func glue(w int) api.Item { return api.Item{Kind: api.Glue, W: w} }

func penalty(w int) api.Item { return api.Item{Kind: api.Penalty, W: w} }

func hyphen(w int) api.Item { return api.Item{Kind: api.Penalty, W: w, Hyphen: true} }

func leap() api.Item { return api.Item{Kind: api.Leap} }

// list makes a list of items.
func list(l ...api.Item) []api.Item { return l }

// line makes a line that fits.
func line(a, b, natural int) api.Piece { return api.Piece{A: a, B: b, Natural: natural} }

// wide makes a line that is Wide.
func wide(a, b, natural int) api.Piece { return api.Piece{A: a, B: b, Natural: natural, Wide: true} }

// ending makes of a line one that a hyphen ends.
func ending(p api.Piece) api.Piece {
	p.Hyphen = true
	return p
}

// slot makes a slot of its width, from 0 on.
func slot(w int) api.Slot { return api.Slot{W: w} }

// slots makes slots of their widths, from 0 on.
func slots(widths ...int) []api.Slot {
	var l []api.Slot
	for _, w := range widths {
		l = append(l, slot(w))
	}
	return l
}

// few tells the first few of a list, for what a test says.
func few[T any](l []T) []T { return l[:min(len(l), 8)] }

// breaks tells whether items have these lines in a profile.
func breaks(t *testing.T, l []api.Item, s []api.Slot, rest api.Slot, must ...api.Piece) {
	t.Helper()
	p, e := first.Break(l, s, rest)
	if e != api.OK || !slices.Equal(p, must) {
		t.Errorf("break of %v in %v, %v: %v, %v, not %v", few(l), few(s), rest, few(p), e, few(must))
	}
}

// in tells whether items have these lines, all of one width.
func in(t *testing.T, l []api.Item, w int, must ...api.Piece) {
	t.Helper()
	breaks(t, l, nil, slot(w), must...)
}

// refused tells whether Break answers an error, and no lines.
func refused(t *testing.T, l []api.Item, s []api.Slot, rest api.Slot, why api.Errno) {
	t.Helper()
	if p, e := first.Break(l, s, rest); len(p) != 0 || e != why {
		t.Errorf("break of %d items %v in %d slots %v, %v: %v, %v, not %v", len(l), few(l), len(s), few(s), rest, few(p), e, why)
	}
}

// checked tells whether a profile may be, or why not; with an error nothing is broken in it.
func checked(t *testing.T, s []api.Slot, rest api.Slot, why api.Errno) {
	t.Helper()
	if e := first.Check(s, rest); e != why {
		t.Errorf("check of %d slots %v, %v: %v, not %v", len(s), few(s), rest, e, why)
	}
	if why != api.OK {
		refused(t, of("a b c"), s, rest, why)
		refused(t, nil, s, rest, why)
	} else if p, e := first.Break(of("a b c"), s, rest); len(p) == 0 || e != api.OK {
		t.Errorf("break in %d slots %v, %v: %v, %v", len(s), few(s), rest, p, e)
	}
}

// TestExamples: the chapter's table, row by row.
func TestExamples(t *testing.T) {
	abc := of("a b c")
	in(t, abc, 13, api.Piece{A: 0, B: 3, Natural: 13}, api.Piece{A: 4, B: 5, Natural: 5})
	in(t, abc, 12, line(0, 1, 5), line(2, 3, 5), line(4, 5, 5))
	breaks(t, abc, slots(5), slot(20), line(0, 1, 5), line(2, 5, 13))
	in(t, abc, 2, wide(0, 1, 5), wide(2, 3, 5), wide(4, 5, 5))
	in(t, nil, 2, line(0, 0, 0))
}

// TestCheck: P11.1, 256 and 257 slots, X and W of a slot and of the rest at both bounds and one beyond.
func TestCheck(t *testing.T) {
	checked(t, nil, api.Slot{}, api.OK)
	checked(t, []api.Slot{}, api.Slot{}, api.OK)
	for _, n := range []int{1, 2, 255, 256} {
		checked(t, make([]api.Slot, n), api.Slot{}, api.OK)
		checked(t, slices.Repeat([]api.Slot{{X: 4095, W: 4095}}, n), api.Slot{X: 4095, W: 4095}, api.OK)
	}
	for _, n := range []int{257, 258, 512, 1 << 16} {
		checked(t, make([]api.Slot, n), api.Slot{}, api.ErrLong)
	}
	for n, why := range map[int]api.Errno{-1: api.ErrArg, 0: api.OK, 1: api.OK, 4094: api.OK, 4095: api.OK, 4096: api.ErrArg} {
		bounds(t, n, why)
	}
	for _, n := range far {
		bounds(t, n, api.ErrArg)
	}
}

// bounds tells whether a number may be a slot's X and its W, of the rest and of the first, an inner and the last slot.
func bounds(t *testing.T, n int, why api.Errno) {
	t.Helper()
	for _, s := range []api.Slot{{X: n}, {W: n}, {X: n, W: n}, {X: n, W: 4095}, {X: 4095, W: n}} {
		checked(t, nil, s, why)
		checked(t, slots(1, 2), s, why)
		checked(t, []api.Slot{s}, api.Slot{}, why)
		for _, at := range []int{0, 1, 100, 255} {
			l := make([]api.Slot, 256)
			l[at] = s
			checked(t, l, slot(7), why)
		}
	}
}

// TestSlot: P11.1, n below 0, at each slot, at the first one behind and far behind.
func TestSlot(t *testing.T) {
	rest := api.Slot{X: 7, W: 9}
	for _, n := range []int{0, 1, 2, 255, 256} {
		l := make([]api.Slot, n)
		for i := range l {
			l[i] = api.Slot{X: i, W: 4095 - i}
		}
		for i := range n {
			if s := first.Slot(l, rest, i); s != l[i] {
				t.Errorf("slot %d of %d: %v", i, n, s)
			}
		}
		for _, i := range []int{n, n + 1, n + 255, 4096, math.MaxInt32, math.MaxInt} {
			if s := first.Slot(l, rest, i); s != rest {
				t.Errorf("slot %d of %d: %v, not the rest", i, n, s)
			}
		}
		for _, i := range []int{-1, -2, -256, -257, math.MinInt32, math.MinInt} {
			if s := first.Slot(l, rest, i); s != (api.Slot{}) {
				t.Errorf("slot %d of %d: %v, not zero", i, n, s)
			}
		}
	}
	for _, i := range far {
		if s := first.Slot(nil, rest, i); i < 0 && s != (api.Slot{}) || i >= 0 && s != rest {
			t.Errorf("slot %d of none: %v", i, s)
		}
	}
}

// TestNoItems: P11.2, no items, and Glues alone, are one line from the end to the end, in whatever slot.
func TestNoItems(t *testing.T) {
	for _, w := range []int{0, 1, 4095} {
		in(t, nil, w, line(0, 0, 0))
		in(t, list(), w, line(0, 0, 0))
		for n := 1; n <= 6; n++ {
			in(t, of(strings.Repeat(" ", n)), w, line(n, n, 0))
			in(t, slices.Repeat(list(glue(api.MaxWide)), n), w, line(n, n, 0))
		}
		breaks(t, slices.Repeat(list(glue(1)), 8192), slots(w, w, w), api.Slot{X: 4095, W: w}, line(8192, 8192, 0))
	}
}

// TestGlues: P11.2, Glues at the front, at the end and in a row: those where a line begins or ends count for nothing.
func TestGlues(t *testing.T) {
	in(t, of(" a"), 5, line(1, 2, 5))
	in(t, of("   a"), 5, line(3, 4, 5))
	in(t, of("   a"), 4, wide(3, 4, 5))
	in(t, of("a "), 5, line(0, 2, 5))
	in(t, of("a   "), 5, line(0, 4, 5))
	in(t, of("a   "), 4, wide(0, 1, 5)) // behind the break are Glues alone: no line
	in(t, of("  a  "), 5, line(2, 5, 5))
	in(t, of("  a  "), 0, wide(2, 3, 5))
	in(t, of("a  b"), 16, line(0, 4, 16))
	in(t, of("a  b"), 15, line(0, 1, 5), line(3, 4, 5))
	in(t, of("a  b  c"), 16, line(0, 4, 16), line(6, 7, 5))
	in(t, of("a   b"), 4, wide(0, 1, 5), wide(4, 5, 5))
	in(t, of(" a  b "), 16, line(1, 6, 16))
	in(t, of(" a  b "), 15, line(1, 2, 5), line(4, 6, 5))
	in(t, list(box(5), glue(0), glue(0), box(5)), 10, line(0, 4, 10))
	in(t, list(box(5), glue(api.MaxWide), glue(api.MaxWide)), 5, line(0, 3, 5))
	in(t, list(box(0), glue(0), box(0)), 0, line(0, 3, 0))
}

// TestJustAsWide: P11.2, a line that is just as wide as its slot fits, one that is wider by 1 does not.
func TestJustAsWide(t *testing.T) {
	abcd := of("a b c d")
	in(t, abcd, 29, line(0, 7, 29))
	in(t, abcd, 28, line(0, 5, 21), line(6, 7, 5))
	in(t, abcd, 21, line(0, 5, 21), line(6, 7, 5))
	in(t, abcd, 20, line(0, 3, 13), line(4, 7, 13))
	in(t, abcd, 13, line(0, 3, 13), line(4, 7, 13))
	in(t, abcd, 12, line(0, 1, 5), line(2, 3, 5), line(4, 5, 5), line(6, 7, 5))
	in(t, abcd, 5, line(0, 1, 5), line(2, 3, 5), line(4, 5, 5), line(6, 7, 5))
	in(t, abcd, 4, wide(0, 1, 5), wide(2, 3, 5), wide(4, 5, 5), wide(6, 7, 5))
	in(t, list(box(4095)), 4095, line(0, 1, 4095))
	in(t, list(box(4096)), 4095, wide(0, 1, 4096))
	in(t, list(box(1)), 0, wide(0, 1, 1))
	in(t, list(box(0)), 0, line(0, 1, 0))
	for n := 1; n <= 40; n++ {
		in(t, list(box(n)), n, line(0, 1, n))
		in(t, list(box(n)), n-1, wide(0, 1, n))
	}
}

// TestBoxesInARow: P11.2, no line ends between Boxes, and what is too wide by both is Wide up to the next break.
func TestBoxesInARow(t *testing.T) {
	in(t, list(box(5), box(5)), 10, line(0, 2, 10))
	in(t, list(box(5), box(5)), 9, wide(0, 2, 10))
	in(t, list(box(5), box(5), glue(3), box(5)), 9, wide(0, 2, 10), line(3, 4, 5))
	in(t, list(box(5), glue(3), box(5), box(5)), 9, line(0, 1, 5), wide(2, 4, 10))
	in(t, list(box(api.MaxWide), box(api.MaxWide)), 4095, wide(0, 2, 2*api.MaxWide))
}

// TestPenalties: P11.2, a Penalty is a break, whose W counts at just that break; Hyphen is that of the Penalty at the break.
func TestPenalties(t *testing.T) {
	for _, p := range []struct {
		it  api.Item
		end func(api.Piece) api.Piece
	}{{penalty(3), func(p api.Piece) api.Piece { return p }}, {hyphen(3), ending}} {
		l := list(box(5), p.it, box(5))
		in(t, l, 10, line(0, 3, 10))
		in(t, l, 9, p.end(line(0, 1, 8)), line(2, 3, 5))
		in(t, l, 8, p.end(line(0, 1, 8)), line(2, 3, 5))
		in(t, l, 7, p.end(wide(0, 1, 8)), line(2, 3, 5))
		in(t, l, 4, p.end(wide(0, 1, 8)), wide(2, 3, 5))
		// Of two in a row the first one at which a line ends is gone, the next one stands at the front.
		l = list(box(5), p.it, p.it, box(5))
		in(t, l, 10, line(0, 4, 10))
		in(t, l, 9, p.end(line(0, 2, 8)), line(3, 4, 5))
		in(t, l, 7, p.end(wide(0, 1, 8)), line(2, 4, 5))
		// Last.
		l = list(box(5), p.it)
		in(t, l, 8, line(0, 2, 5))
		in(t, l, 7, p.end(wide(0, 1, 8)))
		l = list(box(5), p.it, p.it)
		in(t, l, 8, line(0, 3, 5))
		in(t, l, 7, p.end(wide(0, 1, 8)), line(2, 3, 0))
		in(t, l, 0, p.end(wide(0, 1, 8)), line(2, 3, 0))
		// First: no line ended there, and it is no break above itself.
		l = list(p.it, box(5))
		in(t, l, 5, line(0, 2, 5))
		in(t, l, 0, wide(0, 2, 5))
		in(t, list(p.it), 0, line(0, 1, 0))
		in(t, list(p.it, p.it), 3, line(0, 2, 0))
		in(t, list(p.it, p.it), 2, p.end(wide(0, 1, 3)))
		in(t, list(p.it, p.it, p.it), 2, p.end(wide(0, 1, 3)), line(2, 3, 0))
		in(t, list(p.it, p.it, p.it, p.it), 2, p.end(wide(0, 1, 3)), p.end(wide(2, 3, 3)))
		in(t, list(glue(3), p.it, box(5)), 5, line(1, 3, 5))
		in(t, list(glue(3), glue(3), p.it, p.it, box(5)), 5, line(2, 5, 5))
		in(t, list(glue(3), glue(3), p.it, p.it, box(5)), 4, p.end(line(2, 3, 3)), wide(4, 5, 5))
		in(t, list(p.it, glue(3), box(5)), 5, line(0, 1, 0), line(2, 3, 5))
		in(t, list(p.it, glue(3), box(5)), 8, line(0, 3, 8))
	}
}

// TestGluesAndPenalties: P11.2, Glues on both sides of a Penalty: those behind the break are gone, those ahead of it count for nothing.
func TestGluesAndPenalties(t *testing.T) {
	l := list(box(5), glue(3), hyphen(2), glue(3), box(5))
	in(t, l, 16, line(0, 5, 16))
	in(t, l, 15, line(0, 3, 8), line(4, 5, 5)) // the Penalty stands behind the Glue: that is within
	in(t, l, 8, line(0, 3, 8), line(4, 5, 5))
	in(t, l, 7, ending(line(0, 2, 7)), line(4, 5, 5))
	in(t, l, 6, line(0, 1, 5), line(2, 3, 0), line(4, 5, 5))
	in(t, l, 4, wide(0, 1, 5), line(2, 3, 0), wide(4, 5, 5))
	l = list(box(5), hyphen(2), glue(3), glue(3), box(5))
	in(t, l, 7, line(0, 2, 5), line(4, 5, 5))
	in(t, l, 6, ending(wide(0, 1, 7)), line(4, 5, 5))
	in(t, list(box(5), hyphen(2), glue(3)), 6, ending(wide(0, 1, 7)))
	in(t, list(box(5), hyphen(2), glue(3)), 7, line(0, 3, 5))
	in(t, list(box(5), glue(3), hyphen(2)), 5, line(0, 1, 5), line(2, 3, 0))
}

// TestFitsBehindWhatDoesNot: P11.2, a break that fits behind one that does not is not taken: with Penalties and with Leaps.
func TestFitsBehindWhatDoesNot(t *testing.T) {
	in(t, list(box(5), penalty(3), box(1)), 7, wide(0, 1, 8), line(2, 3, 1))
	in(t, list(box(5), hyphen(3), box(1)), 6, ending(wide(0, 1, 8)), line(2, 3, 1))
	in(t, list(box(5), penalty(api.MaxWide), box(1)), 4095, wide(0, 1, 5+api.MaxWide), line(2, 3, 1))
	in(t, list(box(5), glue(3), box(5), penalty(3), box(1)), 14, line(0, 1, 5), line(2, 5, 6))
	in(t, list(box(5), glue(3), box(5), penalty(3), box(1)), 15, line(0, 1, 5), line(2, 5, 6))
	in(t, list(box(5), glue(3), box(5), penalty(3), box(1)), 16, line(0, 5, 14))
	in(t, list(box(5), penalty(1), box(1), penalty(30), box(1), penalty(1), box(1)), 20, line(0, 1, 6), wide(2, 3, 31), line(4, 7, 2))
	in(t, list(box(40), penalty(20), leap(), box(2)), 50, wide(0, 1, 60), line(2, 4, 50))
	in(t, list(box(5), glue(3), box(30), hyphen(20), leap()), 50, line(0, 1, 5), line(2, 5, 48))
	in(t, list(box(5), glue(3), box(30), hyphen(20), leap()), 49, line(0, 1, 5), ending(wide(2, 3, 50)), line(4, 5, 48))
}

// TestLeaps: P11.2, Leaps go to stops counted from the column's left end: from several X.
func TestLeaps(t *testing.T) {
	tabbed := of("a\tb c")
	for _, x := range []struct {
		x, w int
		must []api.Piece
	}{
		{0, 61, []api.Piece{line(0, 5, 61)}},
		{0, 60, []api.Piece{line(0, 3, 53), line(4, 5, 5)}},
		{0, 53, []api.Piece{line(0, 3, 53), line(4, 5, 5)}},
		{0, 52, []api.Piece{wide(0, 3, 53), line(4, 5, 5)}},
		{1, 60, []api.Piece{line(0, 5, 60)}},
		{1, 59, []api.Piece{line(0, 3, 52), line(4, 5, 5)}},
		{40, 21, []api.Piece{line(0, 5, 21)}},
		{40, 20, []api.Piece{line(0, 3, 13), line(4, 5, 5)}},
		{40, 12, []api.Piece{wide(0, 3, 13), line(4, 5, 5)}},
		{42, 19, []api.Piece{line(0, 5, 19)}},
		{43, 66, []api.Piece{line(0, 5, 66)}}, // the Leap stands at 48, and goes to 96
		{43, 65, []api.Piece{line(0, 3, 58), line(4, 5, 5)}},
		{48, 61, []api.Piece{line(0, 5, 61)}},
		{48, 60, []api.Piece{line(0, 3, 53), line(4, 5, 5)}},
		{4095, 46, []api.Piece{line(0, 5, 46)}}, // 4100 to 4128
		{4095, 45, []api.Piece{line(0, 3, 38), line(4, 5, 5)}},
	} {
		breaks(t, tabbed, nil, api.Slot{X: x.x, W: x.w}, x.must...)
	}
	in(t, list(leap()), 48, line(0, 1, 48))
	in(t, list(leap()), 47, wide(0, 1, 48))
	in(t, list(leap(), leap(), box(1)), 97, line(0, 3, 97))
	in(t, list(leap(), leap(), box(1)), 96, wide(0, 3, 97))
	in(t, list(leap(), glue(3), box(1)), 48, line(0, 1, 48), line(2, 3, 1))
	in(t, list(glue(3), leap(), glue(3), leap()), 48, line(1, 2, 48), line(3, 4, 48))
	breaks(t, list(leap(), leap()), nil, api.Slot{X: 4095, W: 81}, line(0, 2, 81)) // to 4128, and to 4176
	breaks(t, list(leap(), leap()), nil, api.Slot{X: 4095, W: 80}, wide(0, 2, 81))
	// Each line's X counts for its own Leaps.
	breaks(t, of("a\tb\x1fa\tb\x1fa\tb"), []api.Slot{{X: 0, W: 60}, {X: 40, W: 20}}, api.Slot{X: 50, W: 60},
		ending(line(0, 3, 56)), ending(line(4, 7, 16)), line(8, 11, 51))
}

// TestFarLeaps: P11.2, a Leap may stand far behind where the widest slot ends.
func TestFarLeaps(t *testing.T) {
	for _, w := range []int{8190, 8191, 8192, 100000, api.MaxWide} {
		stop := (w/48 + 1) * 48
		in(t, list(box(w), leap(), box(1)), 4095, wide(0, 3, stop+1))
		breaks(t, list(box(w-4095), leap(), box(1)), nil, api.Slot{X: 4095, W: 4095}, wideIf(0, 3, stop+1-4095, 4095))
	}
	breaks(t, list(box(4065), leap(), box(5)), nil, api.Slot{X: 4095, W: 4095}, wide(0, 3, 4118)) // it stands at the stop 8160, and goes to 8208
	breaks(t, list(box(4064), leap(), box(30)), nil, api.Slot{X: 4095, W: 4095}, line(0, 3, 4095))
	breaks(t, list(box(4064), leap(), box(31)), nil, api.Slot{X: 4095, W: 4095}, wide(0, 3, 4096))
}

// wideIf makes a line that is Wide, if it is wider than its slot.
func wideIf(a, b, natural, w int) api.Piece {
	return api.Piece{A: a, B: b, Natural: natural, Wide: natural > w}
}

// TestWide: P11.2, a line is Wide up to the first legal break above its begin, and no further; slots of W 0.
func TestWide(t *testing.T) {
	in(t, of("abc de f"), 0, wide(0, 1, 15), wide(2, 3, 10), wide(4, 5, 3))
	in(t, of("a bcd e"), 9, line(0, 1, 5), wide(2, 3, 15), line(4, 5, 5))
	in(t, of("bcd a e"), 13, wide(0, 1, 15), line(2, 5, 13))
	in(t, of("a e bcd"), 13, line(0, 3, 13), wide(4, 5, 15))
	in(t, hyphened("table"), 19, ending(line(0, 1, 11)), line(2, 3, 12))
	in(t, hyphened("table"), 11, ending(line(0, 1, 11)), wide(2, 3, 12))
	in(t, hyphened("table"), 10, ending(wide(0, 1, 11)), wide(2, 3, 12))
	in(t, hyphened("table"), 20, line(0, 3, 20))
	in(t, of("a-b"), 12, line(0, 1, 8), line(2, 3, 5))
	in(t, of("a-b"), 7, wide(0, 1, 8), line(2, 3, 5))
	in(t, of("\x01"), 0, line(0, 1, 0))
	in(t, of("\x01 \x01"), 0, line(0, 1, 0), line(2, 3, 0))
	breaks(t, of("a b c"), slots(0), slot(13), wide(0, 1, 5), line(2, 5, 13))
	breaks(t, of("a b c"), slots(13), slot(0), line(0, 3, 13), wide(4, 5, 5))
	breaks(t, of("a b c"), slots(5, 0), slot(13), line(0, 1, 5), wide(2, 3, 5), line(4, 5, 5))
}

// TestSlotsFromLineToLine: P11.1 and P11.2, slots that differ, fewer and more of them than lines.
func TestSlotsFromLineToLine(t *testing.T) {
	text := of("a a a a a a a a")
	breaks(t, text, slots(5, 13, 21), slot(29), line(0, 1, 5), line(2, 5, 13), line(6, 11, 21), line(12, 15, 13))
	breaks(t, text, slots(21, 13, 5), slot(29), line(0, 5, 21), line(6, 9, 13), line(10, 11, 5), line(12, 15, 13))
	breaks(t, text, slots(29, 29), slot(0), line(0, 7, 29), line(8, 15, 29))
	breaks(t, text, slots(29, 29, 29), slot(0), line(0, 7, 29), line(8, 15, 29))
	breaks(t, text, slots(29), slot(29), line(0, 7, 29), line(8, 15, 29))
	breaks(t, text, slots(61, 0, 0), slot(0), line(0, 15, 61))
	breaks(t, text, slots(60, 0, 0), slot(0), line(0, 13, 53), wide(14, 15, 5))
	// The last of 256 slots, and the rest behind it.
	l := slices.Repeat(slots(5), 256)
	l[255] = slot(13)
	var must []api.Piece
	for n := range 255 {
		must = append(must, line(2*n, 2*n+1, 5))
	}
	must = append(must, line(510, 513, 13), line(514, 519, 21), line(520, 525, 21))
	breaks(t, of(strings.TrimRight(strings.Repeat("a ", 263), " ")), l, slot(21), must...)
}

// TestSlotsThatNoLineHas: P11.2, slots that no line has change nothing.
func TestSlotsThatNoLineHas(t *testing.T) {
	text := of("a a a a a")
	must := []api.Piece{line(0, 3, 13), line(4, 7, 13), line(8, 9, 5)}
	breaks(t, text, nil, slot(13), must...)
	breaks(t, text, slots(13, 13, 13), slot(0), must...)
	breaks(t, text, slots(13, 13, 13, 0, 4095), api.Slot{X: 9, W: 1}, must...)
	breaks(t, text, append(slots(13, 13, 5), make([]api.Slot, 253)...), slot(0), must...)
}

// TestX: P11.2, without Leaps a slot's X changes nothing.
func TestX(t *testing.T) {
	for _, x := range []int{0, 1, 47, 48, 4095} {
		breaks(t, of("a b c"), []api.Slot{{X: x, W: 13}}, api.Slot{X: 4095 - x, W: 5}, line(0, 3, 13), line(4, 5, 5))
	}
}

// TestWhatElseItemsHave: P11.2, lines hang on no bytes, stretch, shrink or cost.
func TestWhatElseItemsHave(t *testing.T) {
	l := list(
		api.Item{Kind: api.Box, From: 9, To: 100, W: 5},
		api.Item{Kind: api.Glue, From: 7, To: 7, W: 3, Stretch: 4095, Shrink: 4095},
		api.Item{Kind: api.Box, From: 3, To: math.MaxInt, W: 5},
		api.Item{Kind: api.Penalty, From: 0, To: 9, W: 3, Cost: 4095, Hyphen: true},
		api.Item{Kind: api.Box, From: 1, To: 1, W: 5})
	in(t, l, 18, line(0, 5, 18))
	in(t, l, 17, ending(line(0, 3, 16)), line(4, 5, 5))
	in(t, l, 15, line(0, 1, 5), line(2, 5, 10))
	in(t, l, 12, line(0, 1, 5), line(2, 5, 10))
	in(t, l, 9, line(0, 1, 5), ending(line(2, 3, 8)), line(4, 5, 5))
}

// badItems tells items that may not be, and their errors.
func badItems() map[api.Errno][][]api.Item {
	good := of("a b")
	var args [][]api.Item
	for _, it := range []api.Item{
		{}, {Kind: 5}, {Kind: -1}, {Kind: api.Box, From: -1}, {Kind: api.Box, From: 1}, box(-1), box(api.MaxWide + 1),
		glue(-1), penalty(-1), penalty(api.MaxWide + 1), {Kind: api.Leap, W: 1},
		{Kind: api.Glue, Stretch: -1}, {Kind: api.Glue, Stretch: 4096}, {Kind: api.Glue, Shrink: 4096}, {Kind: api.Penalty, Cost: 4096},
		{Kind: api.Box, Hyphen: true}, {Kind: api.Glue, Hyphen: true}, {Kind: api.Leap, Hyphen: true},
		{Kind: api.Box, Cost: 1}, {Kind: api.Penalty, Stretch: 1}, {Kind: api.Leap, Shrink: 1},
	} {
		args = append(args, list(it), append(list(it), good...), append(slices.Clip(good), it))
	}
	return map[api.Errno][][]api.Item{
		api.ErrArg:  args,
		api.ErrLong: {slices.Repeat(list(box(1)), 8193), make([]api.Item, 8193), slices.Repeat(good, 1<<13)},
	}
}

// TestErrors: P11.2 and rule 1, items that may not be, profiles that may not be, and both at once: item's error comes first, ErrLong of a profile ahead of its ErrArg.
func TestErrors(t *testing.T) {
	profiles := []struct {
		s    []api.Slot
		rest api.Slot
		why  api.Errno
	}{
		{nil, slot(9), api.OK},
		{nil, slot(-1), api.ErrArg},
		{slots(1, -1, 1), slot(9), api.ErrArg},
		{slots(1, 4096), slot(4096), api.ErrArg},
		{make([]api.Slot, 257), slot(9), api.ErrLong},
		{slices.Repeat(slots(-1), 257), slot(9), api.ErrLong},
		{make([]api.Slot, 257), slot(-1), api.ErrLong},
		{append(make([]api.Slot, 256), slot(4096)), slot(4096), api.ErrLong},
	}
	for _, x := range profiles {
		if e := first.Check(x.s, x.rest); e != x.why {
			t.Errorf("check of %d slots, %v: %v, not %v", len(x.s), x.rest, e, x.why)
		}
		for why, lists := range badItems() {
			for _, l := range lists {
				refused(t, l, x.s, x.rest, why)
			}
		}
		if x.why != api.OK {
			for _, l := range [][]api.Item{nil, of("a b"), of("   "), of("a\tb")} {
				refused(t, l, x.s, x.rest, x.why)
			}
		}
	}
}

// TestMostItems: P11.2 and P11, 8,192 items are broken: in one line, in as many lines as can be.
func TestMostItems(t *testing.T) {
	pairs := slices.Repeat(list(box(1), glue(0)), 4096)
	in(t, pairs, 4095, line(0, 8189, 4095), line(8190, 8192, 1))
	p, e := first.Break(pairs, nil, slot(0))
	if e != api.OK || len(p) != 4096 {
		t.Fatal(len(p), e)
	}
	for i := range p {
		if p[i] != wide(2*i, 2*i+1, 1) {
			t.Errorf("line %d: %v", i, p[i])
		}
	}
	in(t, slices.Repeat(list(box(api.MaxWide)), 8192), 4095, wide(0, 8192, 8192*api.MaxWide))
	in(t, slices.Repeat(list(leap()), 8192), 4095, wide(0, 8192, 8192*48))
	in(t, slices.Repeat(list(box(0)), 8192), 0, line(0, 8192, 0))
}

// TestItemsOfParagraphs: P11.2, paragraphs of up to 4,096 bytes, those that are longest in items among them; and one that Items tells, but Check refuses.
func TestItemsOfParagraphs(t *testing.T) {
	for _, text := range []string{"a", "a ", "a-", "\x1f", "a\x1f", "\t", "a\t", "ta", "table ", "a^~ ", " "} {
		for _, w := range []int{0, 9, 100, 4095} {
			l := hyphened(strings.Repeat(text, 4096/len(text)))
			p, e := first.Break(l, slots(50, 30), api.Slot{X: 20, W: w})
			if e != api.OK || len(p) == 0 {
				t.Fatalf("%q in %d: %d lines, %v", text, w, len(p), e)
			}
			follows(t, l, slots(50, 30), api.Slot{X: 20, W: w}, p)
		}
	}
	p := api.Para{Text: strings.Repeat("\x02", 4096), Spans: []api.Span{{Len: 4096}}, P: api.Props{Size: 64, Pitch: 12, Orphan: 1, Widow: 1}}
	p.Marks = slices.Repeat([]string{"WWWWWWWW"}, 4096)
	if l, e := item.Items(p); e != api.OK {
		t.Error(e)
	} else {
		refused(t, l, nil, slot(9), api.ErrArg)
	}
}

// roomy makes a list that has so much spare room, filled with something that may not be.
func roomy[T any](l []T, bad T, spare int) []T {
	out := append(slices.Clone(l), slices.Repeat([]T{bad}, spare)...)
	return out[:len(l)]
}

// TestListsStayAsTheyWere: rule 4, what is handed in is not changed, its spare room neither read nor written.
func TestListsStayAsTheyWere(t *testing.T) {
	badItem, badSlot := api.Item{Kind: 9, W: -1}, slot(-1)
	for _, text := range []string{"", "a", " a b  c ", "a\tb\x1fc-d", "    "} {
		l, s := roomy(of(text), badItem, 9), roomy(slots(5, 13, 40), badSlot, 300)
		wasItems, wasSlots := slices.Clone(l[:cap(l)]), slices.Clone(s[:cap(s)])
		must, _ := first.Break(of(text), slots(5, 13, 40), slot(20))
		breaks(t, l, s, slot(20), must...)
		if first.Check(s, slot(20)) != api.OK || first.Slot(s, slot(20), 3) != slot(20) {
			t.Error("spare slots are read")
		}
		if !slices.Equal(l[:cap(l)], wasItems) || !slices.Equal(s[:cap(s)], wasSlots) {
			t.Errorf("lists of %q were changed", text)
		}
		refused(t, l[:len(l)+1], s, slot(20), api.ErrArg)
		refused(t, l, s[:4], slot(20), api.ErrArg)
		if !slices.Equal(l[:cap(l)], wasItems) || !slices.Equal(s[:cap(s)], wasSlots) {
			t.Errorf("lists of %q were changed with an error", text)
		}
	}
}

// TestAnswersAreNewMemory: rule 4, lines that are written over, their spare room too, change nothing that is told later, and lists that are written over change no lines.
func TestAnswersAreNewMemory(t *testing.T) {
	l, s := of("a b c d e"), slots(5, 13)
	must := []api.Piece{line(0, 1, 5), line(2, 5, 13), line(6, 9, 13)}
	p, _ := first.Break(l, s, slot(20))
	q, _ := first.Break(l, s, slot(20))
	for i := range p[:cap(p)] {
		p[:cap(p)][i] = api.Piece{A: -9, B: -9, Wide: true, Hyphen: true, Natural: -9}
	}
	if !slices.Equal(q, must) {
		t.Error("two answers share memory: ", q)
	}
	breaks(t, l, s, slot(20), must...)
	clear(l)
	clear(s)
	if !slices.Equal(q, must) {
		t.Error("an answer shares memory with what was handed in: ", q)
	}
}

// TestNothingIsKept: P1, what is told hangs on what is handed in alone, not on what was asked ahead.
func TestNothingIsKept(t *testing.T) {
	l, s := of("a b c d e"), slots(5, 13)
	for range 3 {
		breaks(t, l, s, slot(20), line(0, 1, 5), line(2, 5, 13), line(6, 9, 13))
		refused(t, list(box(-1)), s, slot(20), api.ErrArg)
		refused(t, l, slots(-1), slot(20), api.ErrArg)
		in(t, nil, 20, line(0, 0, 0))
		s[0] = slot(13)
		breaks(t, l, s, slot(20), line(0, 3, 13), line(4, 7, 13), line(8, 9, 5))
		s[0] = slot(5)
		l[0].W = 6
		breaks(t, l, s, slot(20), wide(0, 1, 6), line(2, 5, 13), line(6, 9, 13))
		l[0].W = 5
	}
}

// TestSideBySide: rule 8, calls on the same lists at the same time do not disturb one another.
func TestSideBySide(t *testing.T) {
	l, s := hyphened(strings.Repeat("table a\tb-c ", 20)), slots(50, 80, 20)
	must, _ := first.Break(l, s, slot(60))
	var all sync.WaitGroup
	for range 8 {
		all.Go(func() {
			for range 50 {
				if p, e := first.Break(l, s, slot(60)); e != api.OK || !slices.Equal(p, must) {
					t.Error(p, e)
				}
			}
		})
	}
	all.Wait()
}
