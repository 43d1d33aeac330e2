package para_test

import (
	"math"
	"slices"
	"strings"
	"sync"
	"testing"

	"quire/api"
	"quire/para"
	"quire/set"
)

// far is numbers that are out of all bounds.
var far = []int{math.MinInt, math.MinInt + 1, math.MinInt32 - 1, math.MinInt32, -1 << 20, -4097, -4096, -4095, -2, -1, 4096, 4097, 1 << 16, 1 << 20, math.MaxInt32, math.MaxInt32 + 1, 1 << 32, 1<<32 + 1, math.MaxInt - 1, math.MaxInt}

// aligns is all alignments.
var aligns = []int{api.Left, api.Full, api.Right, api.Centre}

// block makes a paragraph of Size 8 with one span, and a mark to each Ref.
func block(text string) api.Para {
	p := api.Para{Text: text, P: api.Props{Size: 8, Pitch: 12, Orphan: 1, Widow: 1}}
	if text != "" {
		p.Spans = []api.Span{{Len: len(text)}}
	}
	for range strings.Count(text, "\x02") {
		p.Marks = append(p.Marks, "1")
	}
	return p
}

// best tells a paragraph that is broken with least demerits.
func best(p api.Para) api.Para {
	p.P.Least = 1
	return p
}

// hyphened tells a paragraph whose words may be parted.
func hyphened(p api.Para) api.Para {
	p.P.Hyphen = 1
	return p
}

// labelled tells a paragraph with a label.
func labelled(p api.Para, label string) api.Para {
	p.Label = label
	return p
}

// dropped tells a paragraph with a drop capital of so many lines.
func dropped(p api.Para, lines int) api.Para {
	p.P.Drop = lines
	return p
}

// indented tells a paragraph with its indents.
func indented(p api.Para, first, in, out int) api.Para {
	p.P.First, p.P.In, p.P.Out = first, in, out
	return p
}

// sizedAs tells a paragraph of another size.
func sizedAs(p api.Para, size int) api.Para {
	p.P.Size = size
	return p
}

// looking tells a paragraph with other spans.
func looking(p api.Para, l ...api.Span) api.Para {
	p.Spans = l
	return p
}

// span makes a span of its numbers.
func span(n, size, track, kern int) api.Span {
	return api.Span{Len: n, C: api.Char{Size: size, Track: track, Kern: kern}}
}

// slot makes a slot.
func slot(x, w int) api.Slot { return api.Slot{X: x, W: w} }

// slots makes slots of their X and W, in turn.
func slots(l ...int) []api.Slot {
	var out []api.Slot
	for i := 0; i < len(l); i += 2 {
		out = append(out, slot(l[i], l[i+1]))
	}
	return out
}

// line makes a line about which nothing is odd.
func line(from, to, x, w, natural int) api.Line {
	return api.Line{From: from, To: to, X: x, W: w, Natural: natural}
}

// ended tells a line that ends with a hyphen.
func ended(l api.Line) api.Line {
	l.Hyphen = true
	return l
}

// odd tells a line with a flag.
func odd(l api.Line, flag int) api.Line {
	l.Flag = flag
	return l
}

// few tells the first few of a list, for what a test says.
func few[T any](l []T) []T { return l[:min(len(l), 8)] }

// short tells a text in a few bytes, for what a test says.
func short(text string) string {
	if len(text) > 40 {
		return text[:40] + ".."
	}
	return text
}

// lays tells whether a paragraph has these lines in a profile.
func lays(t *testing.T, p api.Para, s []api.Slot, rest api.Slot, must ...api.Line) {
	t.Helper()
	if l, e := para.Lay(p, s, rest); e != api.OK || !slices.Equal(l, must) {
		t.Errorf("lay of %q, %v, label %q, in %v, %v: %v, %v, not %v", short(p.Text), p.P, p.Label, few(s), rest, few(l), e, few(must))
	}
}

// in tells whether a paragraph has these lines, all slots being one.
func in(t *testing.T, p api.Para, rest api.Slot, must ...api.Line) {
	t.Helper()
	lays(t, p, nil, rest, must...)
}

// leaves tells whether a paragraph leaves these slots of a profile, and this rest.
func leaves(t *testing.T, p api.Para, s []api.Slot, rest api.Slot, mustRest api.Slot, must ...api.Slot) {
	t.Helper()
	if l, r, e := para.Inner(p, s, rest); e != api.OK || r != mustRest || !slices.Equal(l, must) {
		t.Errorf("inner of %q, %v, label %q, in %v, %v: %v, %v, %v, not %v, %v", short(p.Text), p.P, p.Label, few(s), rest, few(l), r, e, few(must), mustRest)
	}
}

// stands tells whether a label stands at a place.
func stands(t *testing.T, p api.Para, s api.Slot, must int) {
	t.Helper()
	if n, e := para.Label(p, s); n != must || e != api.OK {
		t.Errorf("label of %v in %v: %d, %v, not %d", p.P, s, n, e, must)
	}
}

// refused tells whether Inner and Lay answer an error, and nothing else.
func refused(t *testing.T, p api.Para, s []api.Slot, rest api.Slot, why api.Errno) {
	t.Helper()
	if l, r, e := para.Inner(p, s, rest); len(l) != 0 || r != (api.Slot{}) || e != why {
		t.Errorf("inner of %q, %v, in %d slots %v, %v: %v, %v, %v, not %v", short(p.Text), p.P, len(s), few(s), rest, few(l), r, e, why)
	}
	if l, e := para.Lay(p, s, rest); len(l) != 0 || e != why {
		t.Errorf("lay of %q, %v, in %d slots %v, %v: %v, %v, not %v", short(p.Text), p.P, len(s), few(s), rest, few(l), e, why)
	}
}

// unlabelled tells whether Label answers an error, and no place.
func unlabelled(t *testing.T, p api.Para, s api.Slot, why api.Errno) {
	t.Helper()
	if n, e := para.Label(p, s); n != 0 || e != why {
		t.Errorf("label of %q, %v, in %v: %d, %v, not %v", short(p.Text), p.P, s, n, e, why)
	}
}

// TestExamples: the chapter's examples, row by row.
func TestExamples(t *testing.T) {
	p := block("a b c d")
	in(t, p, slot(0, 13), line(0, 4, 0, 13, 13), line(4, 7, 0, 13, 13))
	in(t, indented(p, 5, 2, 1), slot(0, 21), line(0, 4, 7, 13, 13), line(4, 7, 2, 18, 13))
	in(t, labelled(p, "1."), slot(10, 24), line(0, 4, 21, 13, 13), line(4, 7, 10, 24, 13))
	in(t, block(""), slot(3, 9), line(0, 0, 3, 9, 0))
	in(t, best(p), slot(0, 4), odd(line(0, 2, 0, 4, 5), 3), odd(line(2, 4, 0, 4, 5), 3), odd(line(4, 6, 0, 4, 5), 3), odd(line(6, 7, 0, 4, 5), 3))
}

// TestEachPart: P14.1, what each property takes of a slot, and of which lines.
func TestEachPart(t *testing.T) {
	three := slots(10, 100, 20, 90, 30, 80)
	rest := slot(40, 70)
	p := block("abc")
	leaves(t, p, three, rest, rest, three...)
	// First: of the first line alone.
	leaves(t, indented(p, 7, 0, 0), three, rest, rest, slots(17, 93, 20, 90, 30, 80)...)
	// In and Out: of every line.
	leaves(t, indented(p, 0, 7, 0), three, rest, slot(47, 63), slots(17, 93, 27, 83, 37, 73)...)
	leaves(t, indented(p, 0, 0, 7), three, rest, slot(40, 63), slots(10, 93, 20, 83, 30, 73)...)
	// A label: of the first line alone.
	leaves(t, labelled(p, "1."), three, rest, rest, slots(21, 89, 20, 90, 30, 80)...)
	// A drop capital: of as many lines as it says.
	leaves(t, dropped(p, 0), three, rest, rest, three...)
	leaves(t, dropped(p, 1), three, rest, rest, three...)
	leaves(t, dropped(p, 2), three, rest, rest, slots(24, 86, 34, 76, 30, 80)...)
	leaves(t, dropped(p, 3), three, rest, rest, slots(29, 81, 39, 71, 49, 61)...)
	leaves(t, dropped(p, 4), three, rest, rest, slots(34, 76, 44, 66, 54, 56, 64, 46)...)
	// All of them together.
	all := dropped(labelled(indented(p, 5, 3, 2), "1."), 2)
	leaves(t, all, three, rest, slot(43, 65), slots(43, 65, 37, 71, 33, 75)...)
	leaves(t, all, nil, rest, slot(43, 65), slots(73, 35, 57, 51)...)
	// A label stands with a first indent, one that is not asked with none.
	leaves(t, labelled(indented(p, 5, 3, 2), "1."), nil, rest, slot(43, 65), slot(59, 49))
}

// TestWhatTakesNothing: P14.1, the other properties take nothing of a slot, nor do the text and its looks.
func TestWhatTakesNothing(t *testing.T) {
	p := block("a b")
	p.P = api.Props{Size: 8, Pitch: 255, Align: api.Centre, Before: 255, After: 255, Next: 1, Whole: 1, Orphan: 4, Widow: 4, Hyphen: 1, Least: 1, Drop: 1, List: 8, Level: 3}
	leaves(t, p, slots(10, 20), slot(5, 6), slot(5, 6), slot(10, 20))
	leaves(t, looking(labelled(block("AV"), "AV"), span(2, 64, 15, 1)), nil, slot(10, 60), slot(10, 60), slot(26, 44))
	leaves(t, block(strings.Repeat("W", 4096)), nil, slot(10, 20), slot(10, 20), slot(10, 20))
}

// TestLabelRoom: P14.1, the room of a label: none without one; else its bytes, each one rounded by itself, of the paragraph's size, and 4.
func TestLabelRoom(t *testing.T) {
	for _, x := range []struct {
		label string
		size  int
		room  int
	}{
		{"", 8, 0}, {"", 64, 0}, {".", 8, 6}, {"1.", 8, 11}, {"iii.", 8, 12}, {"iii.", 5, 8}, {"iii.", 1, 4}, {"a)", 8, 12}, {"a)", 13, 16},
		{"W", 1, 5}, {"AV", 16, 28}, {"WWWWWWWWWWWWWWWW", 8, 132}, {"WWWWWWWWWWWWWWWW", 64, 1028}, {"iiiiiiiiiiiiiiii", 3, 4},
	} {
		p := labelled(sizedAs(block("a b"), x.size), x.label)
		leaves(t, p, nil, slot(10, 2000), slot(10, 2000), slot(10+x.room, 2000-x.room))
	}
}

// TestCapitalRoom: P14.1, the room of a drop capital is set.Drop's, none without one; there are slots of as many lines as Drop says in either case.
func TestCapitalRoom(t *testing.T) {
	for _, text := range []string{"abc", "Wab", "ib", "a", "a^~", " ab", "1ab", "", "-", "\ta", "\x1fa", "\x01a", "\x02a"} {
		for _, size := range []int{1, 8, 15, 16, 17, 64} {
			for lines := range 5 {
				p := dropped(sizedAs(block(text), size), lines)
				room, e := set.Drop(p)
				if e != api.OK {
					t.Fatal(e)
				}
				s := slot(10+room, 200-room)
				leaves(t, p, nil, slot(10, 200), slot(10, 200), slices.Repeat([]api.Slot{s}, max(lines, 1))...)
			}
		}
	}
	leaves(t, dropped(block("abc"), 2), nil, slot(10, 200), slot(10, 200), slots(24, 186, 24, 186)...)
	leaves(t, dropped(block(" abc"), 4), nil, slot(10, 200), slot(10, 200), slots(10, 200, 10, 200, 10, 200, 10, 200)...)
}

// TestHowManySlots: P14.1, as many slots as are handed in, one at least, and Drop at least; what is not handed in is made of the rest.
func TestHowManySlots(t *testing.T) {
	for _, n := range []int{0, 1, 2, 3, 4, 5, 6, 255, 256} {
		var s []api.Slot
		for i := range n {
			s = append(s, slot(i, 300+i))
		}
		for lines := range 5 {
			p := dropped(indented(block("abc"), 3, 2, 1), lines)
			room := []int{0, 0, 14, 19, 24}[lines]
			var must []api.Slot
			for i := range max(n, lines, 1) {
				x := slot(7, 70)
				if i < n {
					x = s[i]
				}
				left := 2
				if i == 0 {
					left = 5
				}
				if i < lines {
					left += room
				}
				must = append(must, slot(x.X+left, x.W-left-1))
			}
			leaves(t, p, s, slot(7, 70), slot(9, 67), must...)
		}
	}
	// Fewer slots than Drop, and more.
	p := dropped(block("abc"), 3)
	leaves(t, p, slots(0, 50), slot(5, 60), slot(5, 60), slots(19, 31, 24, 41, 24, 41)...)
	leaves(t, p, slots(0, 50, 1, 51, 2, 52, 3, 53), slot(5, 60), slot(5, 60), slots(19, 31, 20, 32, 21, 33, 3, 53)...)
}

// TestBounds: P14.1, X is at most 4,095, W at least 0, each by itself, in the slots and in the rest.
func TestBounds(t *testing.T) {
	p := block("abc")
	for _, s := range slots(0, 0, 0, 4095, 4095, 0, 4095, 4095, 0, 1, 1, 0) {
		leaves(t, p, []api.Slot{s}, s, s, s)
		leaves(t, p, nil, s, s, s)
	}
	for _, x := range []struct{ left, out, x, w, inX, inW int }{
		{1, 0, 0, 0, 1, 0}, {1, 0, 0, 4095, 1, 4094}, {1, 0, 4095, 0, 4095, 0}, {1, 0, 4095, 4095, 4095, 4094},
		{1, 0, 4094, 9, 4095, 8}, {2, 0, 4094, 9, 4095, 7}, {0, 0, 4095, 9, 4095, 9}, {255, 0, 3840, 255, 4095, 0}, {255, 0, 3841, 256, 4095, 1}, {255, 0, 3839, 254, 4094, 0},
		{3, 4, 0, 6, 3, 0}, {3, 4, 0, 7, 3, 0}, {3, 4, 0, 8, 3, 1}, {0, 4, 9, 3, 9, 0}, {0, 255, 9, 255, 9, 0}, {0, 255, 9, 256, 9, 1}, {255, 255, 0, 0, 255, 0}, {255, 255, 0, 511, 255, 1}, {255, 255, 4095, 4095, 4095, 3585},
	} {
		s, inner := slot(x.x, x.w), slot(x.inX, x.inW)
		leaves(t, indented(p, 0, x.left, x.out), nil, s, inner, inner)
		leaves(t, indented(p, 0, x.left, x.out), []api.Slot{s, s}, s, inner, inner, inner)
		leaves(t, indented(p, x.left, 0, x.out), nil, s, slot(x.x, max(x.w-x.out, 0)), inner)
	}
	// The most that can be taken: 255, 255, 1,028 and 68 on the left, 255 on the right.
	most := dropped(labelled(indented(sizedAs(block("Wa"), 64), 255, 255, 255), strings.Repeat("W", 16)), 2)
	for _, x := range [][4]int{{2489, 1861, 4095, 0}, {2490, 1862, 4095, 1}, {2488, 1860, 4094, 0}, {0, 4095, 1606, 2234}, {4095, 0, 4095, 0}} {
		leaves(t, most, slots(x[0], x[1]), slot(0, 600), slot(255, 90), slot(x[2], x[3]), slot(323, 22))
	}
}

// TestLinesInNarrowSlots: P14.2, lines in inner slots whose X and W are at their bounds.
func TestLinesInNarrowSlots(t *testing.T) {
	p := block("a b")
	in(t, p, slot(0, 0), odd(line(0, 2, 0, 0, 5), 1), odd(line(2, 3, 0, 0, 5), 1))
	in(t, p, slot(4095, 4095), line(0, 3, 4095, 4095, 13))
	in(t, indented(p, 0, 255, 255), slot(4095, 510), odd(line(0, 2, 4095, 0, 5), 1), odd(line(2, 3, 4095, 0, 5), 1))
	in(t, indented(p, 0, 255, 255), slot(0, 100), odd(line(0, 2, 255, 0, 5), 1), odd(line(2, 3, 255, 0, 5), 1))
	in(t, indented(p, 255, 0, 0), slot(0, 100), odd(line(0, 2, 255, 0, 5), 1), line(2, 3, 0, 100, 5))
	in(t, indented(block(""), 255, 255, 255), slot(4000, 700), line(0, 0, 4095, 0, 0))
	// A tab's stop is counted from where the inner slot is.
	in(t, indented(block("\ta"), 0, 7, 0), slot(40, 60), line(0, 2, 47, 53, 6))
	in(t, indented(block("\ta"), 0, 8, 0), slot(40, 61), line(0, 2, 48, 53, 53))
	in(t, indented(block("\ta"), 0, 255, 0), slot(4000, 400), line(0, 2, 4095, 145, 38))
}

// TestParts: P14.2, lines in slots of which all is taken that can be.
func TestParts(t *testing.T) {
	p := block("a b c d e a b c d e")
	in(t, indented(p, 8, 0, 0), slot(0, 21), line(0, 4, 8, 13, 13), line(4, 10, 0, 21, 21), line(10, 16, 0, 21, 21), line(16, 19, 0, 21, 13))
	in(t, indented(p, 0, 8, 0), slot(0, 29), line(0, 6, 8, 21, 21), line(6, 12, 8, 21, 21), line(12, 18, 8, 21, 21), line(18, 19, 8, 21, 5))
	in(t, indented(p, 0, 0, 8), slot(0, 29), line(0, 6, 0, 21, 21), line(6, 12, 0, 21, 21), line(12, 18, 0, 21, 21), line(18, 19, 0, 21, 5))
	in(t, labelled(p, "1."), slot(0, 24), line(0, 4, 11, 13, 13), line(4, 10, 0, 24, 21), line(10, 16, 0, 24, 21), line(16, 19, 0, 24, 13))
	// Behind the capital the blank is ahead of the first line's items, its bytes are in the line.
	in(t, dropped(p, 2), slot(0, 35), line(0, 8, 14, 21, 21), line(8, 14, 14, 21, 21), line(14, 19, 0, 35, 21))
	all := dropped(labelled(indented(p, 5, 3, 2), "1."), 2)
	lays(t, all, slots(1, 48, 2, 40), slot(3, 18), line(0, 6, 34, 13, 13), line(6, 12, 19, 21, 21), line(12, 16, 6, 13, 13), line(16, 19, 6, 13, 13))
	// More lines than slots, and fewer.
	lays(t, p, slots(9, 5, 8, 13), slot(7, 60), line(0, 2, 9, 5, 5), line(2, 6, 8, 13, 13), line(6, 19, 7, 60, 53))
	lays(t, p, slots(9, 80, 8, 13), slot(7, 60), line(0, 19, 9, 80, 77))
	// Fewer slots than Drop: the rest has the capital's room too.
	lays(t, dropped(p, 4), slots(0, 37), slot(1, 45), line(0, 6, 24, 13, 13), line(6, 12, 25, 21, 21), line(12, 18, 25, 21, 21), line(18, 19, 25, 21, 5))
	// Fewer lines than Drop.
	in(t, dropped(block("ab"), 4), slot(0, 45), line(0, 2, 24, 21, 5))
	in(t, dropped(block("a"), 4), slot(0, 45), line(0, 1, 24, 21, 0))
	in(t, dropped(block("a "), 4), slot(0, 45), line(0, 2, 24, 21, 0))
	in(t, dropped(block("a^`b"), 2), slot(0, 45), line(0, 4, 14, 31, 5))
}

// TestLabel: P14.1, where a label stands: the slot's X, In and First together, whatever the label is, and past 4,095 too.
func TestLabel(t *testing.T) {
	for _, label := range []string{"", "1.", strings.Repeat("W", 16)} {
		for lines := range 5 {
			p := dropped(labelled(block("abc"), label), lines)
			for _, x := range []int{0, 1, 10, 4094, 4095} {
				for _, w := range []int{0, 1, 4095} {
					stands(t, p, slot(x, w), x)
					stands(t, indented(p, 5, 2, 1), slot(x, w), x+7)
					stands(t, indented(p, 5, 0, 255), slot(x, w), x+5)
					stands(t, indented(p, 0, 2, 255), slot(x, w), x+2)
					stands(t, indented(p, 255, 255, 255), slot(x, w), x+510)
				}
			}
		}
	}
	stands(t, labelled(block(""), "1."), slot(3, 0), 3)
}

// TestLeast: P14.2, a paragraph with Least 1 and one with Least 0.
func TestLeast(t *testing.T) {
	p := block("a a a a a a")
	in(t, p, slot(0, 28), line(0, 6, 0, 28, 21), line(6, 11, 0, 28, 21))
	in(t, best(p), slot(0, 28), line(0, 8, 0, 28, 29), line(8, 11, 0, 28, 13))
	in(t, best(p), slot(0, 13), line(0, 4, 0, 13, 13), line(4, 8, 0, 13, 13), line(8, 11, 0, 13, 13))
	// Over the inner profile.
	in(t, indented(best(p), 8, 3, 2), slot(4, 41), line(0, 8, 15, 28, 29), line(8, 11, 7, 36, 13))
	in(t, labelled(best(p), "1."), slot(4, 39), line(0, 8, 15, 28, 29), line(8, 11, 4, 39, 13))
	in(t, dropped(best(block("Wa a a a a a")), 2), slot(4, 48), line(0, 9, 24, 28, 29), line(9, 12, 24, 28, 13))
	lays(t, best(p), slots(0, 28), slot(0, 5), line(0, 8, 0, 28, 29), line(8, 10, 0, 5, 5), line(10, 11, 0, 5, 5))
	// A slot that no line has may change the lines here: eight letters shrink into one line where none is left for the last of them.
	eight := best(block("a a a a a a a a"))
	lays(t, eight, slots(0, 54), slot(0, 4), line(0, 15, 0, 54, 61))
	lays(t, eight, slots(0, 54), slot(0, 5), line(0, 14, 0, 54, 53), line(14, 15, 0, 5, 5))
	in(t, best(block("")), slot(2, 9), line(0, 0, 2, 9, 0))
	in(t, best(block("  ")), slot(2, 0), line(0, 2, 2, 0, 0))
	in(t, best(block("a")), slot(2, 5), line(0, 1, 2, 5, 5))
}

// TestLeastWithTab: P14.2, a paragraph with Least 1 and a tab is broken as it fits, and not loose.
func TestLeastWithTab(t *testing.T) {
	for _, text := range []string{"a a a a a a\t", "\ta a a a a a", "a a\ta a a a", "a a \t a a a a", "a\ta\ta"} {
		for w := range 120 {
			must, _ := para.Lay(block(text), nil, slot(3, w))
			lays(t, best(block(text)), nil, slot(3, w), must...)
		}
	}
	p := best(block("a a a a a a\t"))
	in(t, p, slot(0, 28), line(0, 6, 0, 28, 21), line(6, 10, 0, 28, 13), odd(line(10, 12, 0, 28, 48), 1))
	in(t, best(block("\t")), slot(0, 48), line(0, 1, 0, 48, 48))
	in(t, best(block("\t")), slot(0, 47), odd(line(0, 1, 0, 47, 48), 1))
}

// TestLoose: P14.2, a paragraph with Least 1 that no breaks can make is broken as it fits, all its lines being Loose, those that are Wide this too.
func TestLoose(t *testing.T) {
	in(t, best(block("a b c d")), slot(0, 18), odd(line(0, 4, 0, 18, 13), 2), odd(line(4, 7, 0, 18, 13), 2))
	in(t, best(block("a bbbb c")), slot(0, 10), odd(line(0, 2, 0, 10, 5), 2), odd(line(2, 7, 0, 10, 20), 3), odd(line(7, 8, 0, 10, 5), 2))
	in(t, best(block("a")), slot(0, 4), odd(line(0, 1, 0, 4, 5), 3))
	in(t, hyphened(best(block("a table"))), slot(9, 12), odd(line(0, 2, 9, 12, 5), 2), ended(odd(line(2, 4, 9, 12, 11), 2)), odd(line(4, 7, 9, 12, 12), 2))
	// But for Loose the lines are those of Least 0.
	for _, text := range []string{"a b c d", "a bbbb c", "aa b cc  d", "ab-cd e\x1ff g"} {
		for w := range 60 {
			l, _ := para.Lay(best(block(text)), nil, slot(2, w))
			if l[0].Flag&api.Loose == 0 {
				continue
			}
			var must []api.Line
			plain, _ := para.Lay(block(text), nil, slot(2, w))
			for _, x := range plain {
				must = append(must, odd(x, x.Flag+api.Loose))
			}
			lays(t, best(block(text)), nil, slot(2, w), must...)
		}
	}
}

// TestFlags: P14.2, each Flag from 0 to 3.
func TestFlags(t *testing.T) {
	p := block("a bbbb c")
	in(t, p, slot(0, 28), line(0, 7, 0, 28, 28), line(7, 8, 0, 28, 5))
	in(t, best(p), slot(0, 28), line(0, 7, 0, 28, 28), line(7, 8, 0, 28, 5))
	in(t, p, slot(0, 10), line(0, 2, 0, 10, 5), odd(line(2, 7, 0, 10, 20), 1), line(7, 8, 0, 10, 5))
	in(t, best(p), slot(0, 22), odd(line(0, 2, 0, 22, 5), 2), odd(line(2, 7, 0, 22, 20), 2), odd(line(7, 8, 0, 22, 5), 2))
	in(t, best(p), slot(0, 10), odd(line(0, 2, 0, 10, 5), 2), odd(line(2, 7, 0, 10, 20), 3), odd(line(7, 8, 0, 10, 5), 2))
}

// TestBlanks: P14.2, blanks at a line's end and at its beginning are in its bytes, not in its width.
func TestBlanks(t *testing.T) {
	for _, p := range []api.Para{block("a   b"), best(block("a   b"))} {
		in(t, p, slot(1, 5), line(0, 4, 1, 5, 5), line(4, 5, 1, 5, 5))
		in(t, p, slot(1, 19), line(0, 5, 1, 19, 19))
	}
	for _, p := range []api.Para{block("  a b"), best(block("  a b"))} {
		in(t, p, slot(1, 5), line(0, 4, 1, 5, 5), line(4, 5, 1, 5, 5))
		in(t, p, slot(1, 13), line(0, 5, 1, 13, 13))
	}
	for _, p := range []api.Para{block("a b  "), best(block("a b  "))} {
		in(t, p, slot(1, 5), line(0, 2, 1, 5, 5), line(2, 5, 1, 5, 5))
		in(t, p, slot(1, 13), line(0, 5, 1, 13, 13))
	}
	in(t, block("a  "), slot(1, 4), odd(line(0, 3, 1, 4, 5), 1))
	for _, text := range []string{" ", "  ", "       "} {
		for _, w := range []int{0, 1, 4095} {
			in(t, block(text), slot(1, w), line(0, len(text), 1, w, 0))
			in(t, best(block(text)), slot(1, w), line(0, len(text), 1, w, 0))
			in(t, dropped(block(text), 3), slot(1, w), line(0, len(text), 1, w, 0))
		}
	}
	in(t, block("a "+strings.Repeat(" ", 4000)+"b"), slot(1, 12), line(0, 4002, 1, 12, 5), line(4002, 4003, 1, 12, 5))
	// Blanks behind a tab, ahead of one.
	in(t, block("a \t b"), slot(0, 55), line(0, 4, 0, 55, 48), line(4, 5, 0, 55, 5))
	in(t, block("a \t b"), slot(0, 56), line(0, 5, 0, 56, 56))
	in(t, block("a \t b"), slot(0, 47), line(0, 2, 0, 47, 5), odd(line(2, 4, 0, 47, 48), 1), line(4, 5, 0, 47, 5))
}

// TestHyphens: P14.2, lines that end within words, at soft hyphens and behind a sign -.
func TestHyphens(t *testing.T) {
	in(t, hyphened(block("table")), slot(2, 12), ended(line(0, 2, 2, 12, 11)), line(2, 5, 2, 12, 12))
	in(t, hyphened(block("table")), slot(2, 10), ended(odd(line(0, 2, 2, 10, 11), 1)), odd(line(2, 5, 2, 10, 12), 1))
	in(t, hyphened(block("table")), slot(2, 20), line(0, 5, 2, 20, 20))
	in(t, block("table"), slot(2, 12), odd(line(0, 5, 2, 12, 20), 1))
	in(t, hyphened(best(block("table"))), slot(2, 11), ended(odd(line(0, 2, 2, 11, 11), 2)), odd(line(2, 5, 2, 11, 12), 3))
	in(t, block("ab\x1fcd"), slot(2, 13), ended(line(0, 3, 2, 13, 13)), line(3, 5, 2, 13, 10))
	in(t, best(block("ab\x1fcd")), slot(2, 13), ended(line(0, 3, 2, 13, 13)), line(3, 5, 2, 13, 10))
	in(t, block("ab\x1fcd"), slot(2, 20), line(0, 5, 2, 20, 20))
	in(t, block("ab\x1f  cd"), slot(2, 13), line(0, 5, 2, 13, 10), line(5, 7, 2, 13, 10))
	in(t, block("ab\x1f  cd"), slot(2, 12), ended(odd(line(0, 5, 2, 12, 13), 1)), line(5, 7, 2, 12, 10))
	in(t, block("ab  \x1f  cd"), slot(2, 13), ended(line(0, 7, 2, 13, 13)), line(7, 9, 2, 13, 10))
	in(t, block("a\x1f\x1fb"), slot(2, 8), ended(line(0, 3, 2, 8, 8)), line(3, 4, 2, 8, 5))
	in(t, block("a-b"), slot(2, 8), line(0, 2, 2, 8, 8), line(2, 3, 2, 8, 5))
	in(t, best(block("a-b")), slot(2, 8), line(0, 2, 2, 8, 8), line(2, 3, 2, 8, 5))
	in(t, block("\x1fab"), slot(2, 10), line(0, 3, 2, 10, 10))
	in(t, block("ab\x1f"), slot(2, 12), ended(odd(line(0, 3, 2, 12, 13), 1)))
	in(t, block("ab\x1f"), slot(2, 13), line(0, 3, 2, 13, 10))
	// A line that ends within an accented word takes the accents with it.
	in(t, hyphened(block("ta^b~le")), slot(2, 12), ended(line(0, 3, 2, 12, 11)), line(3, 7, 2, 12, 12))
}

// giving makes a paragraph of 79 letters that are 0 wide, blanks of 39 that shrink by 13 behind each, and a letter that is 64 wide: 3,145 by nature, with a shrink of 1,027.
func giving() api.Para {
	p := looking(block(strings.Repeat("a ", 79) + "W"))
	for range 79 {
		p.Spans = append(p.Spans, span(1, 1, 0, 0), span(1, 64, 15, 0))
	}
	p.Spans = append(p.Spans, span(1, 64, 0, 0))
	return p
}

// TestWide: P14.2, a line is Wide just if its Natural is more than its slot's W and its Glues' shrink together.
func TestWide(t *testing.T) {
	// As it fits there are no Glues in a line that is wider than its slot.
	in(t, block("ab"), slot(0, 10), line(0, 2, 0, 10, 10))
	in(t, block("ab"), slot(0, 9), odd(line(0, 2, 0, 9, 10), 1))
	in(t, block("ab c"), slot(0, 10), line(0, 3, 0, 10, 10), line(3, 4, 0, 10, 5))
	in(t, block("ab c"), slot(0, 9), odd(line(0, 3, 0, 9, 10), 1), line(3, 4, 0, 9, 5))
	in(t, block("a b"), slot(0, 13), line(0, 3, 0, 13, 13))
	in(t, block("a b"), slot(0, 12), line(0, 2, 0, 12, 5), line(2, 3, 0, 12, 5))
	in(t, block("a\tb"), slot(0, 53), line(0, 3, 0, 53, 53))
	in(t, block("a\tb"), slot(0, 52), odd(line(0, 3, 0, 52, 53), 1))
	// With least demerits the Glues shrink: in the last line, and in others.
	in(t, best(block("a b")), slot(0, 12), line(0, 3, 0, 12, 13))
	in(t, best(block("a b")), slot(0, 11), odd(line(0, 2, 0, 11, 5), 2), odd(line(2, 3, 0, 11, 5), 2))
	in(t, best(block("a b cc")), slot(0, 12), line(0, 4, 0, 12, 13), line(4, 6, 0, 12, 10))
	in(t, best(block("a b cc")), slot(0, 11), odd(line(0, 2, 0, 11, 5), 2), odd(line(2, 4, 0, 11, 5), 2), odd(line(4, 6, 0, 11, 10), 2))
	in(t, best(block("a a a a a a")), slot(0, 26), line(0, 8, 0, 26, 29), line(8, 11, 0, 26, 13))
	// A shrink above 1,000 keeps the tolerance with one more, since the ratio is rounded: such a line is Wide, and not Loose.
	p := best(giving())
	lays(t, p, slots(0, 2119), slot(0, 0), line(0, 159, 0, 2119, 3145))
	lays(t, p, slots(0, 2118), slot(0, 0), line(0, 159, 0, 2118, 3145))
	lays(t, p, slots(0, 2117), slot(0, 0), odd(line(0, 159, 0, 2117, 3145), 1))
	if l, e := para.Lay(p, slots(0, 2116), slot(0, 0)); e != api.OK || len(l) < 2 || l[0].Flag != 2 || l[len(l)-1].Flag != 3 {
		t.Error(l, e)
	}
	// As it fits the same slots make other lines.
	lays(t, giving(), slots(0, 3145), slot(0, 0), line(0, 159, 0, 3145, 3145))
	lays(t, giving(), slots(0, 3144), slot(0, 0), line(0, 158, 0, 3144, 78*39), odd(line(158, 159, 0, 0, 64), 1))
}

// TestLooks: P14.2, a line's width is of its bytes' looks, kerned as its items are.
func TestLooks(t *testing.T) {
	p := looking(block("AV AV"), span(5, 16, 0, 1))
	in(t, p, slot(0, 22), line(0, 3, 0, 22, 22), line(3, 5, 0, 22, 22))
	in(t, p, slot(0, 50), line(0, 5, 0, 50, 50))
	in(t, looking(block("a b"), span(1, 16, 2, 0), span(2, 0, 1, 0)), slot(0, 22), line(0, 3, 0, 22, 22))
	in(t, sizedAs(block("a b"), 16), slot(0, 26), line(0, 3, 0, 26, 26))
	q := block("a\x02 b\x01")
	q.Marks = []string{"12"}
	in(t, q, slot(0, 15), line(0, 3, 0, 15, 15), line(3, 5, 0, 15, 5))
	// Of a drop capital nothing counts but its room.
	in(t, dropped(looking(block("AVA"), span(3, 16, 0, 1)), 2), slot(0, 40), line(0, 3, 16, 24, 22))
}

// TestEnds: P14.3, lines that are not Wide end in their inner slots, however they are aligned; those that must shrink for it, where set spreads them: with Full, but the last one.
func TestEnds(t *testing.T) {
	for _, x := range []struct {
		p    api.Para
		rest api.Slot
		must [4][]int // by Align, where each line ends
	}{
		{block("a b c d"), slot(0, 15), [4][]int{{13, 13}, {15, 13}, {15, 15}, {14, 14}}},
		{indented(block("a b c d"), 5, 2, 1), slot(0, 23), [4][]int{{20, 15}, {22, 15}, {22, 22}, {21, 18}}},
		{labelled(block("a b c d"), "1."), slot(10, 24), [4][]int{{34, 23}, {34, 23}, {34, 34}, {34, 28}}},
		{hyphened(block("table")), slot(2, 12), [4][]int{{13, 14}, {13, 14}, {14, 14}, {13, 14}}},
		{best(block("a a a a a a")), slot(0, 28), [4][]int{{29, 13}, {28, 13}, {29, 28}, {29, 20}}},
		{best(block("a b")), slot(0, 12), [4][]int{{13}, {13}, {13}, {13}}},
	} {
		for i, p := range aligns {
			x.p.P.Align = p
			l, e := para.Lay(x.p, nil, x.rest)
			var got []int
			for n := range l {
				at, f := set.End(x.p, l[n], n == len(l)-1)
				if f != api.OK {
					t.Error(f)
				}
				got = append(got, at)
			}
			if e != api.OK || !slices.Equal(got, x.must[i]) {
				t.Errorf("%q, Align %d: %v end at %v, not %v", x.p.Text, p, l, got, x.must[i])
			}
		}
	}
}

// TestAlign: P14.2, how a paragraph is aligned changes no line.
func TestAlign(t *testing.T) {
	for _, p := range []api.Para{block("a b c d"), best(block("a b c d")), hyphened(best(block("a table b")))} {
		for w := range 60 {
			p.P.Align = api.Left
			must, _ := para.Lay(p, nil, slot(3, w))
			for _, p.P.Align = range aligns {
				lays(t, p, nil, slot(3, w), must...)
			}
		}
	}
}

// TestSlotsThatNoLineHas: P14.3, where a paragraph is broken as it fits, they change nothing.
func TestSlotsThatNoLineHas(t *testing.T) {
	must := []api.Line{line(0, 4, 1, 13, 13), line(4, 6, 2, 8, 5), line(6, 7, 3, 9, 5)}
	s := slots(1, 13, 2, 8, 3, 9)
	for _, p := range []api.Para{block("a b c d"), dropped(block("a b c d"), 1)} {
		for _, more := range [][]api.Slot{nil, slots(0, 0), slots(4095, 4095, 0, 0), slices.Repeat(slots(9, 0), 253)} {
			for _, rest := range slots(0, 0, 4095, 4095, 7, 100) {
				lays(t, p, slices.Concat(s, more), rest, must...)
			}
		}
	}
	// Nor does it matter whether a slot is handed in or is the rest.
	for n := range 20 {
		lays(t, block("a b c d"), slices.Repeat(slots(0, 13), n), slot(0, 13), line(0, 4, 0, 13, 13), line(4, 7, 0, 13, 13))
	}
}

// bad is a paragraph that may not be, and why.
type bad struct {
	p   api.Para
	why api.Errno
}

// badParas tells paragraphs that may not be: for one reason, and for several at once.
func badParas() []bad {
	long := strings.Repeat("a", 4097)
	l := []bad{
		{block(long), api.ErrLong},
		{block(long + "\n"), api.ErrLong},
		{looking(sizedAs(block(long), 0)), api.ErrLong},
		{block("a\nb"), api.ErrBytes},
		{block("a\x03b"), api.ErrBytes},
		{block("a\x04b"), api.ErrBytes},
		{block("a\x7fb"), api.ErrBytes},
		{block("a\xffb"), api.ErrBytes},
		{looking(sizedAs(block("a\nb"), 0)), api.ErrBytes},
		{labelled(block("a\x03b"), "a b"), api.ErrBytes},
		{looking(block("abc")), api.ErrArg},
		{looking(block("abc"), span(2, 0, 0, 0)), api.ErrArg},
		{looking(block("abc"), span(4, 0, 0, 0)), api.ErrArg},
		{looking(block("abc"), span(3, 65, 0, 0)), api.ErrArg},
		{looking(block(""), span(1, 0, 0, 0)), api.ErrArg},
		{labelled(block("abc"), "a b"), api.ErrArg},
		{labelled(block("abc"), strings.Repeat("a", 17)), api.ErrArg},
		{labelled(block("abc"), "\x7f"), api.ErrArg},
		{sizedAs(block("abc"), 0), api.ErrArg},
		{sizedAs(block("abc"), 65), api.ErrArg},
		{dropped(block("abc"), 5), api.ErrArg},
		{indented(block("abc"), 256, 0, 0), api.ErrArg},
		{indented(block("abc"), 0, 256, 0), api.ErrArg},
		{indented(block("abc"), 0, 0, 256), api.ErrArg},
		{api.Para{}, api.ErrArg},
		{api.Para{Text: "abc"}, api.ErrArg},
	}
	for _, n := range far {
		l = append(l,
			bad{sizedAs(block("abc"), n), api.ErrArg}, bad{dropped(block("abc"), n), api.ErrArg},
			bad{indented(block("abc"), n, 0, 0), api.ErrArg}, bad{indented(block("abc"), 0, n, 0), api.ErrArg}, bad{indented(block("abc"), 0, 0, n), api.ErrArg})
		for _, set := range []func(p *api.Props){
			func(p *api.Props) { p.Least = n },
			func(p *api.Props) { p.Hyphen = n },
			func(p *api.Props) { p.Align = n },
			func(p *api.Props) { p.Orphan = n },
			func(p *api.Props) { p.Level = n },
		} {
			p := block("abc")
			set(&p.P)
			l = append(l, bad{p, api.ErrArg})
		}
	}
	p := block("a\x02b")
	p.Marks = nil
	l = append(l, bad{p, api.ErrArg})
	p.Marks = []string{"1 2"}
	l = append(l, bad{p, api.ErrArg})
	return l
}

// profile is slots and a rest.
type profile struct {
	slots []api.Slot
	rest  api.Slot
}

// badProfiles tells profiles that may not be, by why.
func badProfiles() map[api.Errno][]profile {
	many := slices.Repeat(slots(0, 10), 257)
	l := map[api.Errno][]profile{
		api.ErrLong: {{many, slot(0, 10)}, {many, slot(-1, 10)}, {slices.Repeat(slots(-1, -1), 257), slot(0, 10)}, {slices.Repeat(many, 20), slot(0, 10)}},
	}
	for _, n := range far {
		for _, s := range slots(n, 10, 10, n, n, n) {
			l[api.ErrArg] = append(l[api.ErrArg], profile{nil, s}, profile{many[:256], s}, profile{[]api.Slot{s}, slot(0, 10)}, profile{[]api.Slot{slot(0, 10), s}, slot(0, 10)}, profile{append(slices.Clone(many[:255]), s), slot(0, 10)})
		}
	}
	return l
}

// TestBadParas: P14.1, P14.2 and rule 1, metric.Check's errors, ahead of those of a profile.
func TestBadParas(t *testing.T) {
	all := []profile{{nil, slot(0, 10)}, {slots(0, 10), slot(0, 10)}, {nil, slot(-1, 10)}, {slots(0, 4096), slot(0, 10)}, {slices.Repeat(slots(0, 10), 257), slot(0, 10)}}
	for _, x := range badParas() {
		for _, y := range all {
			refused(t, x.p, y.slots, y.rest, x.why)
			if x.p.P.Least == 0 {
				refused(t, best(x.p), y.slots, y.rest, x.why)
			}
			unlabelled(t, x.p, y.rest, x.why)
		}
	}
}

// TestBadProfiles: P14.1, P14.2 and rule 1, first.Check's errors: ErrLong ahead of ErrArg.
func TestBadProfiles(t *testing.T) {
	for why, l := range badProfiles() {
		for _, x := range l {
			for _, p := range []api.Para{block(""), block("a b"), best(block("a b")), dropped(labelled(indented(block("a b"), 1, 2, 3), "1."), 4)} {
				refused(t, p, x.slots, x.rest, why)
			}
		}
	}
	// What would bring a slot within its bounds does not help.
	refused(t, indented(block("a"), 0, 5, 0), nil, slot(-5, 10), api.ErrArg)
	refused(t, indented(block("a"), 0, 0, 5), nil, slot(0, 4100), api.ErrArg)
	refused(t, indented(block("a"), 0, 5, 0), slots(0, 4100), slot(0, 10), api.ErrArg)
	// A slot that no line has is refused too.
	refused(t, block("a"), slots(0, 10, 0, 4096), slot(0, 10), api.ErrArg)
	refused(t, block("a"), slots(0, 10), slot(0, -1), api.ErrArg)
}

// TestBadLabels: P14.1, Label's errors: the paragraph's, then the slot's.
func TestBadLabels(t *testing.T) {
	for _, n := range far {
		for _, s := range slots(n, 10, 10, n, n, n) {
			for _, p := range []api.Para{block(""), block("a b"), labelled(block("a b"), "1."), indented(block("a"), 255, 255, 0)} {
				unlabelled(t, p, s, api.ErrArg)
			}
			unlabelled(t, block("a\nb"), s, api.ErrBytes)
			unlabelled(t, block(strings.Repeat("a", 4097)), s, api.ErrLong)
		}
	}
	unlabelled(t, indented(block("a"), 0, 5, 0), slot(-5, 10), api.ErrArg)
}

// TestMost: P1 and P11, paragraphs of 4,096 bytes, of one line and of as many as can be.
func TestMost(t *testing.T) {
	for _, p := range []api.Para{block(strings.Repeat("a ", 2048)), best(block(strings.Repeat("a ", 2048)))} {
		l, e := para.Lay(p, slices.Repeat(slots(1, 5), 256), slot(2, 5))
		if e != api.OK || len(l) != 2048 || l[255] != line(510, 512, 1, 5, 5) || l[256] != line(512, 514, 2, 5, 5) || l[2047] != line(4094, 4096, 2, 5, 5) {
			t.Error(len(l), e, few(l))
		}
	}
	l, e := para.Lay(block(strings.Repeat("\x1f", 4096)), nil, slot(0, 0))
	if e != api.OK || len(l) != 2048 || l[0] != ended(odd(line(0, 2, 0, 0, 3), 1)) || l[2047] != ended(odd(line(4094, 4096, 0, 0, 3), 1)) {
		t.Error(len(l), e, few(l))
	}
	p := looking(block(strings.Repeat("W", 4096)), span(4096, 64, 15, 1))
	in(t, p, slot(4095, 4095), odd(line(0, 4096, 4095, 4095, 4096*79), 1))
	in(t, best(p), slot(4095, 4095), odd(line(0, 4096, 4095, 4095, 4096*79), 3))
	in(t, block(strings.Repeat(" ", 4096)), slot(4095, 0), line(0, 4096, 4095, 0, 0))
}

// TestWiderThanItems: P14.2 and P14.3, the marks of many notes may be wider together than an item may be: the lines are as of any others.
func TestWiderThanItems(t *testing.T) {
	for _, n := range []int{1023, 1024, 1025, 2048, 2049, 3000, 4090} {
		p := sizedAs(block("a "+strings.Repeat("\x02", n)+" b"), 64)
		p.Marks = slices.Repeat([]string{"WWWWWWWW"}, n)
		must := []api.Line{line(0, 2, 7, 100, 40), odd(line(2, n+3, 7, 100, 512*n), 1), line(n+3, n+4, 7, 100, 40)}
		in(t, p, slot(7, 100), must...)
		for i := range must {
			must[i].Flag += api.Loose
		}
		in(t, best(p), slot(7, 100), must...)
		// A tab behind them goes to its stop.
		p.Text = strings.Repeat("\x02", n) + "\ta b"
		in(t, p, slot(7, 100), odd(line(0, n+3, 7, 100, (7+512*n)/48*48+48-7+40), 1), line(n+3, n+4, 7, 100, 40))
	}
}

// TestListsStayAsTheyWere: rule 4, what is handed in is not changed, its spare room neither read nor written.
func TestListsStayAsTheyWere(t *testing.T) {
	text := "AVa table\x02 To b\x02  c"
	p := hyphened(dropped(labelled(indented(block(text), 3, 2, 1), "1."), 4))
	p.Spans = append(make([]api.Span, 0, 9), span(9, 16, 0, 1), span(len(text)-9, 0, 2, 1))
	p.Marks = append(make([]string, 0, 9), "12", "3")
	s := append(make([]api.Slot, 0, 9), slots(10, 100, 20, 90)...)
	for i := range 7 {
		p.Spans[2:9][i], p.Marks[2:9][i], s[2:9][i] = span(-1, -1, -1, -1), "no mark", slot(-9, -9)
	}
	spans, marks, was := slices.Clone(p.Spans[:9]), slices.Clone(p.Marks[:9]), slices.Clone(s[:9])
	tight := p
	tight.Spans, tight.Marks = slices.Clip(slices.Clone(p.Spans)), slices.Clip(slices.Clone(p.Marks))
	for p.P.Least = range 2 {
		tight.P.Least = p.P.Least
		for _, rest := range slots(30, 80, 30, -1) {
			must, e := para.Lay(tight, slots(10, 100, 20, 90), rest)
			if l, f := para.Lay(p, s, rest); f != e || !slices.Equal(l, must) {
				t.Errorf("lay with spare room: %v, %v, not %v, %v", l, f, must, e)
			}
			mustInner, mustRest, e := para.Inner(tight, slots(10, 100, 20, 90), rest)
			if l, r, f := para.Inner(p, s, rest); f != e || r != mustRest || !slices.Equal(l, mustInner) {
				t.Errorf("inner with spare room: %v, %v, %v, not %v, %v, %v", l, r, f, mustInner, mustRest, e)
			}
			para.Label(p, rest)
			if !slices.Equal(p.Spans[:9], spans) || !slices.Equal(p.Marks[:9], marks) || !slices.Equal(s[:9], was) {
				t.Error("lists were changed")
			}
		}
	}
}

// TestAnswersAreNewMemory: rule 4, lists that are handed out and written over, their spare room too, change nothing that is told later, and lists that are handed in and written over change no answers.
func TestAnswersAreNewMemory(t *testing.T) {
	for _, p := range []api.Para{block("a b c d"), best(block("a b c d")), dropped(block("ea b c d"), 3)} {
		s := slots(0, 40, 0, 40, 0, 40, 0, 40)
		mustInner, mustRest, _ := para.Inner(p, s, slot(3, 13))
		must, _ := para.Lay(p, s, slot(3, 13))
		mustInner, must = slices.Clone(mustInner), slices.Clone(must)
		x, _, _ := para.Inner(p, s, slot(3, 13))
		y, _, _ := para.Inner(p, s, slot(3, 13))
		for i := range x[:cap(x)] {
			x[:cap(x)][i] = slot(-9, -9)
		}
		a, _ := para.Lay(p, s, slot(3, 13))
		b, _ := para.Lay(p, s, slot(3, 13))
		for i := range a[:cap(a)] {
			a[:cap(a)][i] = api.Line{From: -9, To: -9, X: -9, W: -9, Natural: -9, Flag: -9}
		}
		leaves(t, p, s, slot(3, 13), mustRest, mustInner...)
		lays(t, p, s, slot(3, 13), must...)
		clear(s)
		clear(p.Spans)
		if !slices.Equal(y, mustInner) || !slices.Equal(b, must) {
			t.Error("answers share memory: ", y, b)
		}
	}
	// So too where nothing is taken of the slots.
	s := slots(0, 10, 0, 20)
	l, _, _ := para.Inner(block("a"), s, slot(0, 30))
	l[0] = slot(9, 9)
	if s[0] != slot(0, 10) {
		t.Error("an answer is what was handed in")
	}
}

// TestNothingIsKept: P1, what is told hangs on what is handed in alone, not on what was asked ahead.
func TestNothingIsKept(t *testing.T) {
	p := block("a b c d")
	for range 3 {
		in(t, p, slot(0, 13), line(0, 4, 0, 13, 13), line(4, 7, 0, 13, 13))
		in(t, best(p), slot(0, 18), odd(line(0, 4, 0, 18, 13), 2), odd(line(4, 7, 0, 18, 13), 2))
		refused(t, p, nil, slot(0, -1), api.ErrArg)
		refused(t, block("\n"), nil, slot(0, 13), api.ErrBytes)
		p.Spans[0].C.Size = 16
		in(t, p, slot(0, 26), line(0, 4, 0, 26, 26), line(4, 7, 0, 26, 26))
		p.Spans[0].C.Size = 0
		leaves(t, labelled(p, "1."), nil, slot(10, 24), slot(10, 24), slot(21, 13))
		leaves(t, p, nil, slot(10, 24), slot(10, 24), slot(10, 24))
		stands(t, indented(p, 5, 2, 1), slot(10, 0), 17)
	}
}

// TestSideBySide: rule 8, calls on the same paragraph at the same time do not disturb one another.
func TestSideBySide(t *testing.T) {
	p := hyphened(dropped(labelled(indented(block(strings.Repeat("AVa table b-c vovo ", 20)), 5, 3, 2), "1."), 3))
	s := slots(0, 300, 5, 310, 7, 220, 9, 200)
	must, e := para.Lay(best(p), s, slot(3, 240))
	if e != api.OK {
		t.Fatal(e)
	}
	other, _ := para.Lay(p, s, slot(3, 240))
	var all sync.WaitGroup
	for range 8 {
		all.Go(func() {
			for range 20 {
				lays(t, best(p), s, slot(3, 240), must...)
				lays(t, p, s, slot(3, 240), other...)
				stands(t, p, slot(3, 240), 11)
			}
		})
	}
	all.Wait()
}
