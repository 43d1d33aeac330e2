package least_test

import (
	"math"
	"slices"
	"strings"
	"sync"
	"testing"

	"quire/api"
	"quire/first"
	"quire/item"
	"quire/least"
)

// far is numbers that are out of all bounds.
var far = []int{math.MinInt, math.MinInt + 1, math.MinInt32 - 1, math.MinInt32, -1 << 20, -8193, -8192, -2, -1, 8193, 8194, 1 << 16, 1 << 20, math.MaxInt32, math.MaxInt32 + 1, 1 << 32, 1<<32 + 1, math.MaxInt - 1, math.MaxInt}

// of makes the items of a paragraph of Size 8 with one span.
func of(text string) []api.Item { return made(text, 0) }

// hyphened makes the items of such a paragraph, whose words may be parted.
func hyphened(text string) []api.Item { return made(text, 1) }

func made(text string, hyphen int) []api.Item {
	p := api.Para{Text: text, P: api.Props{Size: 8, Pitch: 12, Orphan: 1, Widow: 1, Hyphen: hyphen}}
	if text != "" {
		p.Spans = []api.Span{{Len: len(text)}}
	}
	for range strings.Count(text, "\x02") {
		p.Marks = append(p.Marks, "1")
	}
	l, _ := item.Items(p)
	return l
}

func box(w int) api.Item { return api.Item{Kind: api.Box, W: w} }

func glue(w, stretch, shrink int) api.Item {
	return api.Item{Kind: api.Glue, W: w, Stretch: stretch, Shrink: shrink}
}

func penalty(w, cost int) api.Item { return api.Item{Kind: api.Penalty, W: w, Cost: cost} }

func hyphen(w, cost int) api.Item {
	return api.Item{Kind: api.Penalty, W: w, Cost: cost, Hyphen: true}
}

func leap() api.Item { return api.Item{Kind: api.Leap} }

// list makes a list of items.
func list(l ...api.Item) []api.Item { return l }

// at makes a list of breaks.
func at(l ...int) []int { return l }

// line makes a line that is no wider than its slot.
func line(a, b, natural int) api.Piece { return api.Piece{A: a, B: b, Natural: natural} }

// wide makes a line that is wider than its slot.
func wide(a, b, natural int) api.Piece { return api.Piece{A: a, B: b, Natural: natural, Wide: true} }

// ending makes of a line one that a hyphen ends.
func ending(p api.Piece) api.Piece {
	p.Hyphen = true
	return p
}

// slot makes a slot of its width, from 0 on.
func slot(w int) api.Slot { return api.Slot{W: w} }

// slots makes slots of their widths, from 0 on.
func slots(widths ...int) []api.Slot {
	var l []api.Slot
	for _, w := range widths {
		l = append(l, slot(w))
	}
	return l
}

// few tells the first few of a list, for what a test says.
func few[T any](l []T) []T { return l[:min(len(l), 8)] }

// square tells a number times itself.
func square(n int) int { return n * n }

// costs tells whether breaks have these demerits in a profile.
func costs(t *testing.T, l []api.Item, s []api.Slot, rest api.Slot, must int, breaks ...int) {
	t.Helper()
	if d, e := least.Demerits(l, s, rest, breaks); d != must || e != api.OK {
		t.Errorf("demerits of %v in %v, %v of %v: %d, %v, not %d", few(l), few(s), rest, few(breaks), d, e, must)
	}
}

// none tells whether breaks that may be have no demerits, all slots being of one width.
func none(t *testing.T, l []api.Item, w int, breaks ...int) {
	t.Helper()
	costs(t, l, nil, slot(w), api.NoDemerits, breaks...)
}

// breaks tells whether items have these lines in a profile, with these demerits.
func breaks(t *testing.T, l []api.Item, s []api.Slot, rest api.Slot, demerits int, must ...api.Piece) {
	t.Helper()
	p, d, e := least.Break(l, s, rest)
	if e != api.OK || d != demerits || !slices.Equal(p, must) {
		t.Errorf("break of %v in %v, %v: %v, %d, %v, not %v, %d", few(l), few(s), rest, few(p), d, e, few(must), demerits)
	}
}

// in tells whether items have these lines, all of one width, with these demerits.
func in(t *testing.T, l []api.Item, w, demerits int, must ...api.Piece) {
	t.Helper()
	breaks(t, l, nil, slot(w), demerits, must...)
}

// refused tells whether Break answers an error, and nothing else.
func refused(t *testing.T, l []api.Item, s []api.Slot, rest api.Slot, why api.Errno) {
	t.Helper()
	if p, d, e := least.Break(l, s, rest); len(p) != 0 || d != 0 || e != why {
		t.Errorf("break of %d items %v in %d slots %v, %v: %v, %d, %v, not %v", len(l), few(l), len(s), few(s), rest, few(p), d, e, why)
	}
}

// missing tells whether items have no breaks that keep the tolerance, all slots being of one width.
func missing(t *testing.T, l []api.Item, w int) {
	t.Helper()
	refused(t, l, nil, slot(w), api.ErrMissing)
}

// untold tells whether Demerits answers an error, and no number.
func untold(t *testing.T, l []api.Item, s []api.Slot, rest api.Slot, why api.Errno, breaks ...int) {
	t.Helper()
	if d, e := least.Demerits(l, s, rest, breaks); d != 0 || e != why {
		t.Errorf("demerits of %d items %v in %d slots %v, %v of %v: %d, %v, not %v", len(l), few(l), len(s), few(s), rest, few(breaks), d, e, why)
	}
}

// mayNotBe tells whether breaks may not be the items'.
func mayNotBe(t *testing.T, l []api.Item, breaks ...int) {
	t.Helper()
	untold(t, l, nil, slot(13), api.ErrRange, breaks...)
}

// TestExamples: the chapter's table, row by row.
func TestExamples(t *testing.T) {
	abc := of("a b c")
	costs(t, abc, nil, slot(13), 200, 3, 5)
	costs(t, abc, nil, slot(13), -1, 5)
	costs(t, abc, nil, slot(15), 16080200, 3, 5)
	in(t, abc, 13, 200, api.Piece{A: 0, B: 3, Natural: 13}, api.Piece{A: 4, B: 5, Natural: 5})
	refused(t, abc, nil, slot(4), api.ErrMissing)
	refused(t, of("a\tb"), nil, slot(20), api.ErrState)
	untold(t, of("a\tb"), nil, slot(20), api.ErrState, 3)
}

// TestStretch: P12.1, a line's ratio as it stretches: rounded down, up to just 3,000, and one beyond.
func TestStretch(t *testing.T) {
	for _, x := range []struct{ lack, stretch, ratio int }{
		{1, 1, 1000}, {2, 1, 2000}, {3, 1, 3000}, {4, 1, -1},
		{1, 3, 333}, {2, 3, 666}, {3, 3, 1000}, {9, 3, 3000}, {10, 3, -1},
		{2999, 1000, 2999}, {3000, 1000, 3000}, {3001, 1000, -1},
		{3003, 1001, 3000}, {3004, 1001, 3000}, {3005, 1001, -1}, // 3,000 and a part of one is 3,000
		{4000, 1334, 2998}, {4000, 1333, 3000}, {4001, 1333, -1},
		{1, 4095, 0}, {31, 1000, 31}, {32, 1000, 32}, {999, 1000, 999}, {1, 1001, 0}, {4000, 4095, 976},
	} {
		l := list(box(4), glue(3, x.stretch, 0), box(5), penalty(0, 0), box(4095))
		if x.ratio < 0 {
			costs(t, l, slots(12+x.lack), slot(4095), api.NoDemerits, 3, 5)
			refused(t, l, slots(12+x.lack), slot(4095), api.ErrMissing)
			continue
		}
		must := square(10+x.ratio*x.ratio/1000) + 100
		costs(t, l, slots(12+x.lack), slot(4095), must, 3, 5)
		breaks(t, l, slots(12+x.lack), slot(4095), must, line(0, 3, 12), line(4, 5, 4095))
	}
}

// TestShrink: P12.1, a line's ratio as it shrinks: rounded down, up to just 1,000, and one beyond.
func TestShrink(t *testing.T) {
	for _, x := range []struct{ over, shrink, ratio int }{
		{1, 1, 1000}, {2, 1, -1}, {1, 3, 333}, {2, 3, 666}, {3, 3, 1000}, {4, 3, -1},
		{999, 1000, 999}, {1000, 1000, 1000}, {1001, 1000, -1},
		{2000, 2000, 1000}, {2001, 2000, 1000}, {2002, 2000, -1}, // 1,000 and a part of one is 1,000
		{4095, 4095, 1000}, {4096, 4095, 1000}, {4099, 4095, 1000}, {4100, 4095, -1}, {1, 4095, 0},
	} {
		l := list(box(5), glue(0, 4095, x.shrink), box(x.over+5), penalty(0, 0), box(10))
		if x.ratio < 0 {
			none(t, l, 10, 3, 5)
			missing(t, l, 10)
			continue
		}
		costs(t, l, nil, slot(10), square(10+x.ratio*x.ratio/1000)+100, 3, 5)
		breaks(t, l[:3], nil, slot(10), square(10+x.ratio*x.ratio/1000), wide(0, 3, x.over+10)) // the last line shrinks too
	}
}

// TestJustAsWide: P12.1 and P12.2, a line that is just as wide as its slot needs no stretch and no shrink; one that is not needs them.
func TestJustAsWide(t *testing.T) {
	for _, g := range []api.Item{glue(3, 0, 0), glue(3, 4095, 4095), glue(3, 1, 0), glue(3, 0, 1)} {
		l := list(box(5), g, box(5), penalty(0, 0), box(12))
		costs(t, l, nil, slot(13), 200, 3, 5)
		l[1].Shrink = 0 // so that not all is one line
		in(t, l, 13, 200, line(0, 3, 13), line(4, 5, 12))
	}
	l := list(box(5), glue(3, 0, 0), box(5), penalty(0, 0), box(5))
	none(t, l, 14, 3, 5)
	none(t, l, 12, 3, 5)
	l[1].Shrink = 4095 // which is none where a line must stretch
	none(t, l, 14, 3, 5)
	l[1].Stretch, l[1].Shrink = 4095, 0
	none(t, l, 12, 3, 5)
	in(t, list(box(4095)), 4095, 100, line(0, 1, 4095))
	missing(t, list(box(4096)), 4095)
	in(t, list(box(0)), 0, 100, line(0, 1, 0))
	missing(t, list(box(1)), 0)
	costs(t, list(box(0), penalty(0, 0), box(0)), nil, slot(0), 200, 1, 3)
	none(t, list(box(0), penalty(0, 0), box(0)), 1, 1, 3)
}

// TestLastLine: P12.1, the last line need not stretch, however much is lacking, but must shrink.
func TestLastLine(t *testing.T) {
	for _, g := range []api.Item{glue(3, 0, 0), glue(3, 1, 1), glue(3, 4095, 0)} {
		l := list(box(5), g, box(5))
		for _, w := range []int{13, 14, 16, 17, 100, 4095} {
			costs(t, l, nil, slot(w), 100, 3)
			in(t, l, w, 100, line(0, 3, 13))
		}
	}
	l := list(box(5), glue(3, 1, 2), box(5))
	in(t, l, 12, square(10+250), wide(0, 3, 13))
	in(t, l, 11, square(10+1000), wide(0, 3, 13))
	none(t, l, 10, 3)
	missing(t, l, 10)
	// A line that is not the last one is not spared, also where all behind it are Glues but one.
	l = list(box(5), penalty(0, 0), glue(3, 9, 9), penalty(0, 0), box(0))
	none(t, l, 6, 1, 5)
	costs(t, l, nil, slot(5), 200, 1, 5)
}

// TestCost: P12.1, the Cost of the Penalty at a line's break stands within the square; no other one counts.
func TestCost(t *testing.T) {
	for _, c := range []int{0, 1, 50, 100, 4095} {
		l := list(box(5), penalty(0, 7), glue(3, 1, 1), box(5), penalty(0, c), box(5), penalty(0, 9))
		costs(t, l, nil, slot(13), square(10+c)+100, 4, 7)
		costs(t, l, nil, slot(14), square(10+1000+c)+100, 4, 7)
		costs(t, l, nil, slot(12), square(10+1000+c)+100, 4, 7)
		costs(t, l, nil, slot(18), 100, 7)
		costs(t, l, nil, slot(17), square(10+1000), 7) // the last line ends at no Penalty
	}
	costs(t, of("a-b"), nil, slot(8), square(10+50)+100, 1, 3)
	costs(t, hyphened("table"), nil, slot(12), -1, 1, 3) // 11 wide with its hyphen
	costs(t, hyphened("table"), slots(11), slot(12), square(10+100)+100, 1, 3)
	// A Cost is weighed against what a line is stretched by.
	l := list(box(5), glue(3, 3, 0), box(5), glue(0, 1, 0), box(1), penalty(0, 890), box(9))
	costs(t, l, slots(14), slot(10), square(10+110)+100, 3, 7)
	costs(t, l, slots(14), slot(10), square(10+890)+100, 5, 7)
	breaks(t, l, slots(14), slot(10), square(10+110)+100, line(0, 3, 13), line(4, 7, 10))
	l[5].Cost = 0
	breaks(t, l, slots(14), slot(10), 200, line(0, 5, 14), line(6, 7, 9))
}

// TestPenaltyWidth: P12.1, the W of the Penalty at a line's break counts, no other one, and not at the end.
func TestPenaltyWidth(t *testing.T) {
	l := list(box(5), penalty(7, 0), box(5), hyphen(3, 0), box(4), penalty(9, 0))
	costs(t, l, nil, slot(13), 200, 3, 6)
	none(t, l, 10, 3, 6)
	costs(t, l, nil, slot(12), 200, 1, 6)
	costs(t, l, nil, slot(14), 100, 6)
	in(t, l, 13, 200, ending(line(0, 3, 13)), line(4, 6, 4))
	in(t, l, 12, 200, line(0, 1, 12), line(2, 6, 9))
	in(t, l, 14, 100, line(0, 6, 14))
}

// TestTwoHyphens: P12.1, two lines in a row that end at Penalties with Hyphen, such ones with a line between, three in a row, and Penalties without Hyphen.
func TestTwoHyphens(t *testing.T) {
	l := list(box(5), hyphen(0, 0), box(5), hyphen(0, 0), box(5), hyphen(0, 0), box(5), penalty(0, 0), box(5), hyphen(0, 0), box(5), hyphen(0, 0))
	for _, x := range []struct {
		s      []api.Slot
		must   int
		breaks []int
	}{
		{nil, 600 + 20000, at(1, 3, 5, 7, 9, 12)},
		{slots(10, 5, 5, 5), 500 + 10000, at(3, 5, 7, 9, 12)},
		{slots(5, 10, 5, 5), 500 + 10000, at(1, 5, 7, 9, 12)},
		{slots(5, 5, 10, 5), 500 + 10000, at(1, 3, 7, 9, 12)},
		{slots(15, 5, 5), 400, at(5, 7, 9, 12)},
		{slots(5, 15, 5), 400, at(1, 7, 9, 12)},
		{slots(5, 10, 10), 400 + 20000, at(1, 5, 9, 12)},
		{slots(20, 5), 300, at(7, 9, 12)},
		{slots(25), 200, at(9, 12)}, // the last line ends at the end, behind its Penalty
		{slots(30), 100, at(12)},
	} {
		costs(t, l, x.s, slot(5), x.must, x.breaks...)
	}
	// The two need not be hyphens of one kind, and what they cost is apart.
	mixed := list(box(5), hyphen(1, 3), box(5), hyphen(2, 4), box(5), penalty(0, 5), box(5), hyphen(0, 6), box(1))
	costs(t, mixed, slots(6, 7, 5, 5), slot(5), square(13)+square(14)+10000+square(15)+square(16)+100, 1, 3, 5, 7, 9)
	// It is better to end at a Penalty that costs 90 than at a second hyphen in a row.
	l = list(box(5), hyphen(0, 0), box(5), penalty(0, 90), box(0), hyphen(0, 0), box(5))
	in(t, l, 5, 100+square(100)+100, ending(line(0, 1, 5)), line(2, 3, 5), line(4, 7, 5))
	l[3].Cost = 91
	in(t, l, 5, 100+100+10000+100, ending(line(0, 1, 5)), ending(line(2, 5, 5)), line(6, 7, 5))
}

// TestTies: P12.2, of ways with as many demerits the one with the fewest lines is taken; then that whose last break but one is the least, then the one ahead of that.
func TestTies(t *testing.T) {
	// In two lines 400 and 100, in five lines 100 each.
	l := list(box(1), penalty(11, 0), box(3), penalty(0, 0), box(3), penalty(0, 0), box(3), penalty(0, 0), box(2), penalty(0, 10), box(1))
	two := []api.Piece{line(0, 9, 12), line(10, 11, 1)}
	five := []api.Piece{line(0, 1, 12), line(2, 3, 3), line(4, 5, 3), line(6, 7, 3), line(8, 11, 3)}
	for _, s := range [][]api.Slot{slots(12), slots(12, 3), slots(12, 3, 3, 3, 3, 3, 0), slots(12, 3, 3, 3, 3, 0)} { // also where lines have slots of their own
		l[9].Cost = 10
		costs(t, l, s, slot(3), 500, 9, 11)
		costs(t, l, s, slot(3), 500, 1, 3, 5, 7, 11)
		breaks(t, l, s, slot(3), 500, two...)
		l[9].Cost = 11
		breaks(t, l, s, slot(3), 500, five...)
		l[9].Cost = 9
		breaks(t, l, s, slot(3), 461, two...)
	}
	// So too where all lines have one width.
	l = list(box(1), penalty(11, 0), box(3), penalty(9, 0), box(3), penalty(9, 0), box(3), penalty(9, 0), box(2), penalty(0, 10), box(10))
	in(t, l, 12, 500, line(0, 9, 12), line(10, 11, 10))
	l[9].Cost = 11
	in(t, l, 12, 500, line(0, 1, 12), line(2, 3, 12), line(4, 5, 12), line(6, 7, 12), line(8, 11, 12))
	// The first line lacks 1 or has 1 too much.
	l = list(box(2), glue(0, 1, 0), box(2), glue(0, 0, 1), box(2), glue(0, 0, 0), box(1))
	costs(t, l, nil, slot(5), square(1010)+100, 3, 7)
	costs(t, l, nil, slot(5), square(1010)+100, 5, 7)
	in(t, l, 5, square(1010)+100, line(0, 3, 4), line(4, 7, 3))
	breaks(t, l, slots(5), slot(3), square(1010)+100, line(0, 3, 4), line(4, 7, 3))
	l[1].Stretch = 0
	in(t, l, 5, square(1010)+100, wide(0, 5, 6), line(6, 7, 1))
	// The last line is the same; of the first two one lacks 1.
	l = list(box(1), glue(0, 1, 0), box(1), glue(0, 1, 0), box(1), glue(0, 1, 0), box(1), glue(0, 1, 0), box(1), glue(0, 0, 0), box(3))
	costs(t, l, nil, slot(3), square(1010)+200, 3, 9, 11)
	costs(t, l, nil, slot(3), square(1010)+200, 5, 9, 11)
	in(t, l, 3, square(1010)+200, line(0, 3, 2), line(4, 9, 3), line(10, 11, 3))
	breaks(t, l, slots(3, 3, 3, 3), slot(9), square(1010)+200, line(0, 3, 2), line(4, 9, 3), line(10, 11, 3))
}

// TestMoreLines: P12.2, more lines are taken, if they have fewer demerits by 1.
func TestMoreLines(t *testing.T) {
	l := list(box(1), penalty(5, 2), box(3), penalty(9, 2), box(2), penalty(0, 7), box(10))
	for _, x := range []struct {
		s    []api.Slot
		rest int
	}{{slots(6), 12}, {slots(6, 12), 12}, {slots(6, 12, 12), 0}, {slots(6, 12, 12, 9), 12}} {
		l[5].Cost = 7
		costs(t, l, x.s, slot(x.rest), 389, 5, 7)
		costs(t, l, x.s, slot(x.rest), 388, 1, 3, 7)
		breaks(t, l, x.s, slot(x.rest), 388, line(0, 1, 6), line(2, 3, 12), line(4, 7, 12))
		l[5].Cost = 6
		breaks(t, l, x.s, slot(x.rest), 356, line(0, 5, 6), line(6, 7, 10))
	}
}

// TestLastBreakFirst: P12.2, of ways with as many demerits and lines the last break but one counts ahead of what is further to the front.
func TestLastBreakFirst(t *testing.T) {
	l := list(box(1), penalty(9, 0), box(1), penalty(8, 0), box(1), penalty(9, 0), box(1), penalty(7, 0), box(10))
	for _, s := range [][]api.Slot{slots(10, 10), slots(10, 10, 12), slots(10, 10, 12, 0, 7)} {
		costs(t, l, s, slot(12), 300, 1, 7, 9)
		costs(t, l, s, slot(12), 300, 3, 5, 9)
		breaks(t, l, s, slot(12), 300, line(0, 3, 10), line(4, 5, 10), line(6, 9, 11))
	}
}

// TestAgainstLinesAsTheyFit: P12.2 and P5, where lines as they fit don't keep the tolerance, or have more demerits, others are taken.
func TestAgainstLinesAsTheyFit(t *testing.T) {
	g := glue(1, 2, 1)
	l := list(box(4), g, box(4), g, box(4), g, box(10), g, box(14))
	fit, _ := first.Break(l, nil, slot(14))
	if len(fit) != 3 || fit[0].B != 5 || fit[1].B != 7 {
		t.Error(fit)
	}
	none(t, l, 14, 5, 7, 9)
	in(t, l, 14, square(10+6250)+square(10+1000)+100, line(0, 3, 9), wide(4, 7, 15), line(8, 9, 14))
	l = list(box(4), g, box(4), g, box(4), g, box(3), g, box(4), g, box(14))
	costs(t, l, nil, slot(14), 100+square(10+9000)+100, 5, 9, 11)
	in(t, l, 14, square(10+6250)+square(10+62)+100, line(0, 3, 9), line(4, 9, 13), line(10, 11, 14))
}

// TestSlotsFromLineToLine: P12.1 and P12.2, slots that differ, fewer and more of them than lines.
func TestSlotsFromLineToLine(t *testing.T) {
	text := of("a a a a a a a a")
	breaks(t, text, slots(5, 13, 21), slot(29), 400, line(0, 1, 5), line(2, 5, 13), line(6, 11, 21), line(12, 15, 13))
	breaks(t, text, slots(21, 13, 5), slot(29), 400, line(0, 5, 21), line(6, 9, 13), line(10, 11, 5), line(12, 15, 13))
	breaks(t, text, slots(29, 29), slot(0), 200, line(0, 7, 29), line(8, 15, 29))
	breaks(t, text, slots(29, 29, 0, 0), slot(0), 200, line(0, 7, 29), line(8, 15, 29))
	breaks(t, text, slots(29), slot(29), 200, line(0, 7, 29), line(8, 15, 29))
	breaks(t, text, slots(61, 0, 0), slot(0), 100, line(0, 15, 61))
	breaks(t, text, slots(54, 0, 0), slot(0), square(10+1000), wide(0, 15, 61))
	refused(t, text, slots(53, 0, 0), slot(0), api.ErrMissing)
	refused(t, text, slots(5, 13, 21), slot(4), api.ErrMissing)
	refused(t, text, slots(5, 13, 20, 0), slot(29), api.ErrMissing)
	costs(t, text, slots(5, 13, 21), slot(29), 400, 1, 5, 11, 15)
	costs(t, text, slots(5, 13, 21), slot(12), 300+square(10+1000), 1, 5, 11, 15)
	costs(t, text, slots(5, 14, 21), slot(29), 300+square(10+1000), 1, 5, 11, 15)
	costs(t, text, slots(5, 13, 17), slot(29), -1, 1, 5, 11, 15)
	costs(t, text, slots(5, 13, 21, 13, 0), slot(0), 400, 1, 5, 11, 15)
	// A slot of its own that is as wide as the rest, ahead of one that is not.
	breaks(t, text, slots(13, 5, 13, 5), slot(13), 500, line(0, 3, 13), line(4, 5, 5), line(6, 9, 13), line(10, 11, 5), line(12, 15, 13))
	breaks(t, text, slots(13, 5, 13, 5, 13, 13), slot(13), 500, line(0, 3, 13), line(4, 5, 5), line(6, 9, 13), line(10, 11, 5), line(12, 15, 13))
}

// TestMostSlots: P12.2, the last of 256 slots, and the rest behind it.
func TestMostSlots(t *testing.T) {
	s := slices.Repeat(slots(5), 256)
	s[255] = slot(13)
	var must []api.Piece
	var at []int
	for n := range 255 {
		must = append(must, line(2*n, 2*n+1, 5))
	}
	must = append(must, line(510, 513, 13), line(514, 519, 21), line(520, 525, 21))
	for _, p := range must {
		at = append(at, p.B)
	}
	l := of(strings.TrimRight(strings.Repeat("a ", 263), " "))
	breaks(t, l, s, slot(21), 25800, must...)
	costs(t, l, s, slot(21), 25800, at...)
	s[255] = slot(5)
	costs(t, l, s, slot(21), -1, at...)
	s[254] = slot(9)
	refused(t, l, s, slot(21), api.ErrMissing)
}

// TestX: P12.1 and P12.2, a slot's X changes nothing.
func TestX(t *testing.T) {
	for _, x := range []int{0, 1, 47, 48, 4095} {
		s, rest := []api.Slot{{X: x, W: 13}}, api.Slot{X: 4095 - x, W: 5}
		breaks(t, of("a b c"), s, rest, 200, line(0, 3, 13), line(4, 5, 5))
		costs(t, of("a b c"), s, rest, 200, 3, 5)
	}
}

// TestNoItems: P12.2, no items, and Glues alone, are one line from the end to the end, of 100 demerits, in whatever slot; no breaks may be theirs, since that line's is not above its beginning.
func TestNoItems(t *testing.T) {
	for _, w := range []int{0, 1, 13, 4095} {
		in(t, nil, w, 100, line(0, 0, 0))
		in(t, list(), w, 100, line(0, 0, 0))
		for n := 1; n <= 6; n++ {
			in(t, of(strings.Repeat(" ", n)), w, 100, line(n, n, 0))
			in(t, slices.Repeat(list(glue(api.MaxWide, 4095, 4095)), n), w, 100, line(n, n, 0))
			for breaks := range all(n) {
				mayNotBe(t, of(strings.Repeat(" ", n)), breaks...)
			}
		}
		breaks(t, slices.Repeat(list(glue(1, 1, 1)), 8192), slots(w, w, w), api.Slot{X: 4095, W: w}, 100, line(8192, 8192, 0))
	}
	mayNotBe(t, nil)
	mayNotBe(t, nil, 0)
	mayNotBe(t, list(), 0)
}

// TestGlues: P12.1 and P12.2, Glues at the front, at the end and in a row: those where a line begins or ends count for nothing.
func TestGlues(t *testing.T) {
	in(t, of(" a"), 5, 100, line(1, 2, 5))
	in(t, of("   a"), 5, 100, line(3, 4, 5))
	missing(t, of("   a"), 4)
	in(t, of("a   "), 5, 100, line(0, 4, 5))
	missing(t, of("a   "), 4) // the Glues, which could shrink, are at the line's end
	in(t, of("  a  "), 5, 100, line(2, 5, 5))
	in(t, of(" a  b "), 5, 200, line(1, 2, 5), line(4, 6, 5))
	in(t, of(" a  b "), 16, 100, line(1, 6, 16))
	in(t, of(" a  b "), 14, square(10+1000), wide(1, 6, 16))
	costs(t, of(" a  b "), nil, slot(14), square(10+1000), 6)
	costs(t, of(" a  b "), nil, slot(5), 200, 2, 6)
	l := list(box(5), glue(3, 9, 9), hyphen(2, 0), glue(3, 9, 9), box(5)) // a Penalty between: one Glue ahead of it stands within, if the line ends behind
	costs(t, l, nil, slot(8), 200, 3, 5)
	costs(t, l, nil, slot(7), 200, 2, 5)
	costs(t, l, nil, slot(5), square(10+110)+100, 3, 5)
	none(t, l, 6, 2, 5)
	none(t, l, 6, 1, 5)
	costs(t, l, nil, slot(5), 100+square(10+110), 1, 5)
	in(t, l, 5, 100+square(10+110), line(0, 1, 5), wide(2, 5, 8))
}

// TestPenaltiesInARow: P12.1 and P12.2, a line never begins where it would end: behind a Penalty another one, at the front, and at the end.
func TestPenaltiesInARow(t *testing.T) {
	l := list(box(5), penalty(0, 0), penalty(0, 0), box(5))
	costs(t, l, nil, slot(5), 200, 1, 4)
	costs(t, l, nil, slot(5), 200, 2, 4)
	mayNotBe(t, l, 1, 2, 4)
	in(t, l, 5, 200, line(0, 1, 5), line(2, 4, 5)) // the least break of two as good ones
	l = list(penalty(9, 9), box(5), penalty(0, 0))
	mayNotBe(t, l, 0, 3)
	mayNotBe(t, l, 2, 3)
	costs(t, l, nil, slot(5), 100, 3)
	in(t, l, 5, 100, line(0, 3, 5)) // a Penalty at the front stays in the first line
	l = list(glue(3, 1, 1), hyphen(9, 9), box(5), glue(3, 1, 1), penalty(9, 9), glue(3, 1, 1))
	mayNotBe(t, l, 1, 6)
	mayNotBe(t, l, 3, 4, 6)
	mayNotBe(t, l, 4, 6)
	mayNotBe(t, l, 5, 6)
	costs(t, l, nil, slot(8), 100, 6)
	costs(t, l, nil, slot(5), 200, 3, 6)
	breaks(t, l, nil, slot(8), 100, line(1, 6, 8))
	in(t, l, 5, 200, line(1, 3, 5), line(4, 6, 0))
	in(t, list(penalty(9, 9)), 0, 100, line(0, 1, 0))
	in(t, list(penalty(9, 9), penalty(9, 9)), 0, 100, line(0, 2, 0))
	mayNotBe(t, list(penalty(9, 9), penalty(9, 9)), 1, 2)
	costs(t, list(penalty(9, 9), penalty(9, 9), penalty(9, 9)), nil, slot(9), square(19)+100, 1, 3)
}

// TestBreaksThatMayNotBe: P12.1, breaks of none, ones that don't rise, that are no legal breaks, that don't end at the end, and numbers out of all bounds.
func TestBreaksThatMayNotBe(t *testing.T) {
	abc := of("a b c")
	mayNotBe(t, abc)
	mayNotBe(t, abc, []int{}...)
	for _, l := range [][]int{
		{0}, {1}, {2}, {3}, {4}, {6}, {1, 3}, {3, 4}, // not the end
		{0, 5}, {2, 5}, {4, 5}, {1, 2, 5}, {1, 4, 5}, {2, 3, 5}, {0, 1, 3, 5}, // no legal breaks
		{5, 5}, {3, 3, 5}, {3, 1, 5}, {1, 3, 1, 5}, {5, 3}, {5, 3, 5}, {5, 1, 3, 5}, {1, 3, 5, 5}, {1, 1, 1, 5}, // they don't rise
		{6, 5}, {1, 6, 5}, {3, 5, 6}, {5, 6}, {-1, 5}, {1, -1, 5}, {1, 3, -5}, {1, 3, 5, 0},
	} {
		mayNotBe(t, abc, l...)
	}
	costs(t, abc, nil, slot(5), 300, 1, 3, 5)
	for _, n := range far {
		mayNotBe(t, abc, n)
		mayNotBe(t, abc, n, 5)
		mayNotBe(t, abc, 3, n)
		mayNotBe(t, abc, 1, n, 5)
		mayNotBe(t, abc, 3, 5, n)
		mayNotBe(t, nil, n)
		mayNotBe(t, of("   "), n, 3)
	}
	mayNotBe(t, abc, slices.Repeat(at(5), 10000)...)
	mayNotBe(t, abc, slices.Repeat(at(1, 3), 10000)...)
	// Glues alone behind a break, and one that is not above where its line begins.
	mayNotBe(t, of("a b "), 3, 4)
	costs(t, of("a b "), nil, slot(13), 100, 4)
	mayNotBe(t, of("a b   "), 1, 3, 6)
	mayNotBe(t, of("  a"), 1, 3)
	mayNotBe(t, of("  a"), 2, 3)
	costs(t, of("  a"), nil, slot(13), 100, 3)
	mayNotBe(t, of("a\x1f"), 1, 2)
	costs(t, of("a\x1f"), nil, slot(13), 100, 2)
	mayNotBe(t, of("a  \x1fb"), 1, 3, 5) // the line behind the blanks begins at the Soft
	mayNotBe(t, of("a\x1f  b"), 1, 2, 5) // that behind the Soft begins at b
	costs(t, of("a\x1f b"), slots(8), slot(5), square(60)+100, 1, 4)
	costs(t, of("a\x1f b"), nil, slot(5), 200, 2, 4)
}

// TestMissing: P12.2 and P5, that no breaks keep the tolerance is told just where none do.
func TestMissing(t *testing.T) {
	missing(t, of("a"), 4)
	in(t, of("a"), 5, 100, line(0, 1, 5))
	missing(t, of("abc d"), 14)
	in(t, of("abc d"), 15, 200, line(0, 1, 15), line(2, 3, 5))
	missing(t, of("a bcd e"), 15) // the first line can be no longer than a, and has no blank to stretch
	refused(t, of("a b c"), slots(13), slot(4), api.ErrMissing)
	refused(t, of("a b c"), slots(4), slot(13), api.ErrMissing)
	breaks(t, of("a b c"), slots(5), slot(13), 200, line(0, 1, 5), line(2, 5, 13))
	refused(t, of("a b c"), slots(6), slot(13), api.ErrMissing)
	// All but the last line are kept, and the other way round.
	l := list(box(5), glue(3, 1, 1), box(5), glue(3, 1, 1), box(14))
	missing(t, l, 13)
	l[4].W = 13
	in(t, l, 13, 200, line(0, 3, 13), line(4, 5, 13))
	l[0].W = 1
	missing(t, l, 13)
	l[0].W = 2
	in(t, l, 13, square(10+9000)+100, line(0, 3, 10), line(4, 5, 13))
}

// badItems tells items that may not be, and their errors.
func badItems() map[api.Errno][][]api.Item {
	good := of("a b")
	var args [][]api.Item
	for _, it := range []api.Item{
		{}, {Kind: 5}, {Kind: -1}, {Kind: api.Box, From: -1}, {Kind: api.Box, From: 1}, box(-1), box(api.MaxWide + 1),
		glue(-1, 0, 0), penalty(-1, 0), penalty(api.MaxWide+1, 0), {Kind: api.Leap, W: 1},
		glue(1, -1, 0), glue(1, 4096, 0), glue(1, 0, -1), glue(1, 0, 4096), penalty(1, -1), penalty(1, 4096),
		{Kind: api.Box, Hyphen: true}, {Kind: api.Glue, Hyphen: true}, {Kind: api.Leap, Hyphen: true},
		{Kind: api.Box, Cost: 1}, {Kind: api.Penalty, Stretch: 1}, {Kind: api.Leap, Shrink: 1},
	} {
		args = append(args, list(it), append(list(it), good...), append(slices.Clip(good), it), append(list(leap()), it))
	}
	return map[api.Errno][][]api.Item{
		api.ErrArg:  args,
		api.ErrLong: {slices.Repeat(list(box(1)), 8193), make([]api.Item, 8193), slices.Repeat(list(leap()), 8193), slices.Repeat(good, 1<<13)},
	}
}

// TestErrors: P12.1, P12.2 and rule 1, items that may not be, profiles that may not be, a Leap, breaks that may not be, and several at once: the first that the chapter names is told.
func TestErrors(t *testing.T) {
	profiles := []struct {
		s    []api.Slot
		rest api.Slot
		why  api.Errno
	}{
		{nil, slot(9), api.OK},
		{nil, slot(-1), api.ErrArg},
		{nil, slot(4096), api.ErrArg},
		{nil, api.Slot{X: -1}, api.ErrArg},
		{nil, api.Slot{X: 4096}, api.ErrArg},
		{slots(1, -1, 1), slot(9), api.ErrArg},
		{slots(1, 4096), slot(4096), api.ErrArg},
		{make([]api.Slot, 257), slot(9), api.ErrLong},
		{slices.Repeat(slots(-1), 257), slot(-1), api.ErrLong},
	}
	for _, x := range profiles {
		for why, lists := range badItems() {
			for _, l := range lists {
				refused(t, l, x.s, x.rest, why)
				untold(t, l, x.s, x.rest, why, len(l))
				untold(t, l, x.s, x.rest, why)
			}
		}
		for _, l := range [][]api.Item{nil, of("   "), of("a b"), of("a\tb"), of("\t"), of("\t  "), of("a b\t")} {
			why := x.why
			if why == api.OK && item.Leaps(l) {
				why = api.ErrState
			}
			if why != api.OK {
				refused(t, l, x.s, x.rest, why)
				untold(t, l, x.s, x.rest, why, len(l))
				untold(t, l, x.s, x.rest, why, -1)
				untold(t, l, x.s, x.rest, why)
			} else {
				untold(t, l, x.s, x.rest, api.ErrRange)
				untold(t, l, x.s, x.rest, api.ErrRange, -1)
			}
		}
	}
	// A Leap anywhere, where nothing could be kept either.
	for i := range 5 {
		l := of("a b c")
		l[i] = leap()
		refused(t, l, nil, slot(0), api.ErrState)
		untold(t, l, nil, slot(0), api.ErrState, 5)
	}
}

// TestMostSlotsChecked: P12.1, P12.2 and P11, 256 slots are as many as there may be, and lengths from 0 to 4,095.
func TestMostSlotsChecked(t *testing.T) {
	for _, n := range []int{0, 1, 255, 256} {
		breaks(t, of("a"), slices.Repeat([]api.Slot{{X: 4095, W: 4095}}, n), api.Slot{X: 4095, W: 4095}, 100, line(0, 1, 5))
		costs(t, of("a"), slices.Repeat([]api.Slot{{X: 4095, W: 4095}}, n), api.Slot{X: 4095, W: 4095}, 100, 1)
	}
	for _, n := range []int{257, 1 << 16} {
		refused(t, of("a"), make([]api.Slot, n), slot(9), api.ErrLong)
		untold(t, of("a"), make([]api.Slot, n), slot(9), api.ErrLong, 1)
	}
	for _, n := range far {
		if n > api.MaxDim || n < 0 {
			refused(t, of("a"), nil, slot(n), api.ErrArg)
			refused(t, of("a"), slots(9, n), slot(9), api.ErrArg)
			untold(t, of("a"), nil, api.Slot{X: n}, api.ErrArg, 1)
		}
	}
}

// TestMostItems: P12.1, P12.2 and P11, 8,192 items are broken: in one line, in as many lines as can be; numbers that are as great as they may be.
func TestMostItems(t *testing.T) {
	pairs := slices.Repeat(list(box(1), glue(0, 0, 0)), 4096)
	in(t, pairs, 4095, 200, line(0, 8189, 4095), line(8190, 8192, 1))
	p, d, e := least.Break(pairs, nil, slot(1))
	if len(p) != 4096 || d != 409600 || e != api.OK {
		t.Fatal(len(p), d, e)
	}
	at := []int{}
	for i := range p {
		if at = append(at, p[i].B); i < 4095 && p[i] != line(2*i, 2*i+1, 1) {
			t.Errorf("line %d: %v", i, p[i])
		}
	}
	costs(t, pairs, nil, slot(1), 409600, at...)
	missing(t, pairs, 0)
	in(t, slices.Repeat(list(box(0)), 8192), 0, 100, line(0, 8192, 0))
	missing(t, slices.Repeat(list(box(api.MaxWide)), 8192), 4095)
	in(t, slices.Repeat(list(penalty(0, 0)), 8192), 0, 100, line(0, 8192, 0))
	costly := slices.Repeat(list(box(1), hyphen(0, 4095)), 4096)
	must := 4095*(square(4105)+10000) - 10000 + 100
	if p, d, e := least.Break(costly, nil, slot(1)); len(p) != 4096 || d != must || e != api.OK {
		t.Error(len(p), d, must, e)
	}
	// The widest line of all, and what shrinks most.
	wideAll := slices.Repeat(list(box(api.MaxWide), glue(api.MaxWide, 4095, 4095)), 4096)
	missing(t, wideAll, 4095)
	costs(t, wideAll, nil, slot(4095), -1, 8192)
	thin := slices.Repeat(list(box(4095), glue(4095, 4095, 4095)), 4096)
	missing(t, thin, 4094)
	thin = slices.Repeat(list(box(2), glue(1, 4095, 4095)), 4096)
	costs(t, thin, nil, slot(0), 100, 8192) // 12,287 of 16,769,025 is no thousandth
	in(t, thin, 0, 100, wide(0, 8192, 12287))
}

// TestManyLevels: P12.2, 256 slots that differ, and many items.
func TestManyLevels(t *testing.T) {
	var s []api.Slot
	for n := range 256 {
		s = append(s, slot(10+n%2))
	}
	l := slices.Repeat(list(box(4), glue(2, 1, 1)), 1200)
	p, d, e := least.Break(l, s, slot(12))
	// Lines of two boxes: just as wide as slots of 10, in slots of 11 stretched by 1, in the rest by 2.
	must := 128*100 + 128*square(1010) + (600-256-1)*square(10+4000) + 100
	if len(p) != 600 || d != must || e != api.OK {
		t.Error(len(p), d, must, e)
	}
	free := slices.Repeat(list(box(0), glue(0, 4095, 0)), 4096)
	breaks(t, free, s, slot(1), 100, line(0, 8192, 0))
}

// TestItemsOfParagraphs: P12.2 and P12.3, paragraphs of up to 4,096 bytes.
func TestItemsOfParagraphs(t *testing.T) {
	for _, text := range []string{"a", "a ", "a-", "\x1f", "a\x1f", "ta", "table ", "a^~ ", " ", "a table of notes "} {
		for _, w := range []int{0, 9, 100, 4095} {
			l := hyphened(strings.Repeat(text, 4096/len(text)))
			follows(t, l, nil, slot(w))
			follows(t, l, slots(50, 30), api.Slot{X: 20, W: w})
		}
	}
	p := api.Para{Text: strings.Repeat("\x02", 4096), Spans: []api.Span{{Len: 4096}}, P: api.Props{Size: 64, Pitch: 12, Orphan: 1, Widow: 1}}
	p.Marks = slices.Repeat([]string{"WWWWWWWW"}, 4096)
	if l, e := item.Items(p); e != api.OK {
		t.Error(e)
	} else {
		refused(t, l, nil, slot(9), api.ErrArg)
		untold(t, l, nil, slot(9), api.ErrArg, len(l))
	}
}

// TestWhatElseItemsHave: P12.1 and P12.2, lines hang on no bytes.
func TestWhatElseItemsHave(t *testing.T) {
	l := of("a b c")
	for i := range l {
		l[i].From, l[i].To = 9-i, math.MaxInt-i
	}
	in(t, l, 13, 200, line(0, 3, 13), line(4, 5, 5))
	costs(t, l, nil, slot(15), 16080200, 3, 5)
}

// roomy makes a list that has so much spare room, filled with something that may not be.
func roomy[T any](l []T, bad T, spare int) []T {
	out := append(slices.Clone(l), slices.Repeat([]T{bad}, spare)...)
	return out[:len(l)]
}

// TestListsStayAsTheyWere: rule 4, what is handed in is not changed, its spare room neither read nor written.
func TestListsStayAsTheyWere(t *testing.T) {
	badItem, badSlot := api.Item{Kind: 9, W: -1}, slot(-1)
	for text, breaksOf := range map[string][]int{"": {0}, "a": {1}, " a b  c ": {2, 4, 8}, "a\x1fb c-d": {1, 3, 5, 7}, "    ": {4}, "a\tb": {3}} {
		l, s, at := roomy(of(text), badItem, 9), roomy(slots(5, 13, 40), badSlot, 300), roomy(breaksOf, -1, 9)
		wasItems, wasSlots, wasBreaks := slices.Clone(l[:cap(l)]), slices.Clone(s[:cap(s)]), slices.Clone(at[:cap(at)])
		same := func() {
			t.Helper()
			if !slices.Equal(l[:cap(l)], wasItems) || !slices.Equal(s[:cap(s)], wasSlots) || !slices.Equal(at[:cap(at)], wasBreaks) {
				t.Errorf("lists of %q were changed", text)
			}
		}
		pieces, demerits, e := least.Break(of(text), slots(5, 13, 40), slot(20))
		if p, d, f := least.Break(l, s, slot(20)); !slices.Equal(p, pieces) || d != demerits || f != e {
			t.Errorf("break of %q with spare room: %v, %d, %v, not %v, %d, %v", text, p, d, f, pieces, demerits, e)
		}
		same()
		demerits, e = least.Demerits(of(text), slots(5, 13, 40), slot(20), breaksOf)
		if d, f := least.Demerits(l, s, slot(20), at); d != demerits || f != e {
			t.Errorf("demerits of %q with spare room: %d, %v, not %d, %v", text, d, f, demerits, e)
		}
		same()
		refused(t, l[:len(l)+1], s, slot(20), api.ErrArg)
		refused(t, l, s[:4], slot(20), api.ErrArg)
		untold(t, l[:len(l)+1], s, slot(20), api.ErrArg, at...)
		same()
	}
}

// TestAnswersAreNewMemory: rule 4, lines that are written over, their spare room too, change nothing that is told later, and lists that are written over change no lines.
func TestAnswersAreNewMemory(t *testing.T) {
	l, s := of("a b c d e"), slots(5, 13)
	must := []api.Piece{line(0, 1, 5), line(2, 5, 13), line(6, 9, 13)}
	p, _, _ := least.Break(l, s, slot(20))
	q, _, _ := least.Break(l, s, slot(20))
	for i := range p[:cap(p)] {
		p[:cap(p)][i] = api.Piece{A: -9, B: -9, Wide: true, Hyphen: true, Natural: -9}
	}
	if !slices.Equal(q, must) {
		t.Error("two answers share memory: ", q)
	}
	breaks(t, l, s, slot(20), 300, must...)
	clear(l)
	clear(s)
	if !slices.Equal(q, must) {
		t.Error("an answer shares memory with what was handed in: ", q)
	}
	for range 2 {
		p, _, _ = least.Break(nil, nil, slot(20))
		if !slices.Equal(p, []api.Piece{{}}) {
			t.Error("the line of no items shares memory: ", p)
		}
		p[0] = api.Piece{A: 9, B: 9}
	}
}

// TestNothingIsKept: P1, what is told hangs on what is handed in alone, not on what was asked ahead.
func TestNothingIsKept(t *testing.T) {
	l, s := of("a b c d e"), slots(5, 13)
	for range 3 {
		breaks(t, l, s, slot(20), 300, line(0, 1, 5), line(2, 5, 13), line(6, 9, 13))
		costs(t, l, s, slot(20), 300, 1, 5, 9)
		refused(t, list(box(-1)), s, slot(20), api.ErrArg)
		refused(t, l, slots(-1), slot(20), api.ErrArg)
		untold(t, l, s, slot(20), api.ErrRange, 1, 5)
		missing(t, l, 4)
		in(t, nil, 20, 100, line(0, 0, 0))
		s[0] = slot(13)
		breaks(t, l, s, slot(20), 300, line(0, 3, 13), line(4, 7, 13), line(8, 9, 5))
		s[0] = slot(5)
		l[0].W = 6
		refused(t, l, s, slot(20), api.ErrMissing)
		l[0].W = 5
	}
}

// TestSideBySide: rule 8, calls on the same lists at the same time do not disturb one another.
func TestSideBySide(t *testing.T) {
	l, s := hyphened(strings.Repeat("table a b-c ", 20)), slots(80, 90, 70)
	must, demerits, e := least.Break(l, s, slot(100))
	if e != api.OK {
		t.Fatal(e)
	}
	var at []int
	for _, p := range must {
		at = append(at, p.B)
	}
	var all sync.WaitGroup
	for range 8 {
		all.Go(func() {
			for range 50 {
				if p, d, e := least.Break(l, s, slot(100)); e != api.OK || d != demerits || !slices.Equal(p, must) {
					t.Error(p, d, e)
				}
				costs(t, l, s, slot(100), demerits, at...)
			}
		})
	}
	all.Wait()
}
