package set_test

import (
	"math"
	"slices"
	"strings"
	"sync"
	"testing"

	"quire/api"
	"quire/cluster"
	"quire/hyph"
	"quire/metric"
	"quire/set"
)

// far is numbers that are out of all bounds.
var far = []int{math.MinInt, math.MinInt + 1, math.MinInt32 - 1, math.MinInt32, -1 << 20, -4097, -4096, -4095, -2, -1, 4097, 4098, 1 << 16, 1 << 20, math.MaxInt32, math.MaxInt32 + 1, 1 << 32, 1<<32 + 1, math.MaxInt - 1, math.MaxInt}

// aligns is all alignments.
var aligns = []int{api.Left, api.Full, api.Right, api.Centre}

// para makes a paragraph of Size 8 with one span, and a mark to each Ref.
func para(text string, align int) api.Para {
	p := api.Para{Text: text, P: api.Props{Size: 8, Pitch: 12, Orphan: 1, Widow: 1, Align: align}}
	if text != "" {
		p.Spans = []api.Span{{Len: len(text)}}
	}
	for range strings.Count(text, "\x02") {
		p.Marks = append(p.Marks, "1")
	}
	return p
}

// dropped makes such a paragraph, with a drop capital of so many lines.
func dropped(text string, align, lines int) api.Para {
	p := para(text, align)
	p.P.Drop = lines
	return p
}

// looking tells a paragraph with other spans.
func looking(p api.Para, l ...api.Span) api.Para {
	p.Spans = l
	return p
}

// span makes a span of its numbers.
func span(n, size, track, kern int) api.Span {
	return api.Span{Len: n, C: api.Char{Size: size, Track: track, Kern: kern}}
}

// sized tells a paragraph whose bytes have these sizes, one by one.
func sized(p api.Para, sizes ...int) api.Para {
	p.Spans = nil
	for _, n := range sizes {
		p.Spans = append(p.Spans, span(1, n, 0, 0))
	}
	return p
}

// kerned tells a paragraph of a size whose bytes are all kerned.
func kerned(p api.Para, size int) api.Para { return looking(p, span(len(p.Text), size, 0, 1)) }

// hyphened tells a paragraph whose words may be parted.
func hyphened(p api.Para) api.Para {
	p.P.Hyphen = 1
	return p
}

// line makes a line of its places and its slot.
func line(from, to, x, w int) api.Line { return api.Line{From: from, To: to, X: x, W: w} }

// whole makes the line of a whole text, from 0 on.
func whole(p api.Para, w int) api.Line { return line(0, len(p.Text), 0, w) }

// ended tells a line that ends with a hyphen.
func ended(l api.Line) api.Line {
	l.Hyphen = true
	return l
}

// few tells the first few of a list, for what a test says.
func few[T any](l []T) []T { return l[:min(len(l), 8)] }

// short tells a text in a few bytes, for what a test says.
func short(text string) string {
	if len(text) > 40 {
		return text[:40] + ".."
	}
	return text
}

// bytesOf tells the bytes of a line's glyphs: of each cluster, and of the hyphen.
func bytesOf(p api.Para, l api.Line) [][2]int {
	var out [][2]int
	all, _ := cluster.Split(p.Text)
	for _, c := range all {
		if c.From >= l.From && c.To <= l.To {
			out = append(out, [2]int{c.From, c.To})
		}
	}
	if l.Hyphen {
		out = append(out, [2]int{l.To, l.To})
	}
	return out
}

// places tells whether a line's glyphs have these X and W, in turn; and the bytes of its clusters, in order.
func places(t *testing.T, p api.Para, l api.Line, last bool, must ...int) {
	t.Helper()
	var want []api.Glyph
	for i, b := range bytesOf(p, l) {
		if 2*i+1 >= len(must) {
			break
		}
		want = append(want, api.Glyph{From: b[0], To: b[1], X: must[2*i], W: must[2*i+1]})
	}
	stand(t, p, l, last, want...)
	if len(must) != 2*len(bytesOf(p, l)) {
		t.Errorf("%q: %d numbers for %d glyphs", short(p.Text), len(must), len(bytesOf(p, l)))
	}
}

// stand tells whether a line has these glyphs, and ends where the last of them does.
func stand(t *testing.T, p api.Para, l api.Line, last bool, must ...api.Glyph) []api.Glyph {
	t.Helper()
	g, e := set.Place(p, l, last)
	if e != api.OK || !slices.Equal(g, must) {
		t.Errorf("place of %q, %v, Align %d, %v, %v: %v, %v, not %v", short(p.Text), few(p.Spans), p.P.Align, l, last, few(g), e, few(must))
	}
	end := l.X
	if len(must) > 0 {
		end = must[len(must)-1].X + must[len(must)-1].W
	}
	ends(t, p, l, last, end)
	return g
}

// ends tells whether a line ends at a place.
func ends(t *testing.T, p api.Para, l api.Line, last bool, must int) {
	t.Helper()
	if n, e := set.End(p, l, last); n != must || e != api.OK {
		t.Errorf("end of %q, %v, Align %d, %v, %v: %d, %v, not %d", short(p.Text), few(p.Spans), p.P.Align, l, last, n, e, must)
	}
}

// drops tells whether a paragraph's drop capital takes so much room.
func drops(t *testing.T, p api.Para, must int) {
	t.Helper()
	if n, e := set.Drop(p); n != must || e != api.OK {
		t.Errorf("drop of %q, Size %d, Drop %d: %d, %v, not %d", short(p.Text), p.P.Size, p.P.Drop, n, e, must)
	}
}

// refused tells whether a line is answered with an error, and nothing else, as the last one and as another.
func refused(t *testing.T, p api.Para, l api.Line, why api.Errno) {
	t.Helper()
	for _, last := range []bool{false, true} {
		if g, e := set.Place(p, l, last); len(g) != 0 || e != why {
			t.Errorf("place of %q, %v: %v, %v, not %v", short(p.Text), l, few(g), e, why)
		}
		if n, e := set.End(p, l, last); n != 0 || e != why {
			t.Errorf("end of %q, %v: %d, %v, not %v", short(p.Text), l, n, e, why)
		}
	}
}

// TestExamples: the chapter's table, row by row.
func TestExamples(t *testing.T) {
	abc := func(align int) api.Para { return para("a b c", align) }
	places(t, abc(api.Left), line(0, 5, 0, 30), false, 0, 5, 5, 3, 8, 5, 13, 3, 16, 5)
	places(t, abc(api.Right), line(0, 5, 0, 30), false, 9, 5, 14, 3, 17, 5, 22, 3, 25, 5)
	places(t, abc(api.Centre), line(0, 5, 0, 30), false, 4, 5, 9, 3, 12, 5, 17, 3, 20, 5)
	places(t, abc(api.Full), line(0, 5, 0, 24), false, 0, 5, 5, 4, 9, 5, 14, 5, 19, 5)
	places(t, abc(api.Full), line(0, 5, 0, 20), false, 0, 5, 5, 3, 8, 5, 13, 2, 15, 5)
	places(t, abc(api.Full), line(0, 5, 0, 24), true, 0, 5, 5, 3, 8, 5, 13, 3, 16, 5)
	stand(t, para("a b ", api.Left), ended(line(0, 4, 0, 30)), false,
		api.Glyph{From: 0, To: 1, X: 0, W: 5}, api.Glyph{From: 1, To: 2, X: 5, W: 3}, api.Glyph{From: 2, To: 3, X: 8, W: 5},
		api.Glyph{From: 3, To: 4, X: 13, W: 0}, api.Glyph{From: 4, To: 4, X: 13, W: 3})
	stand(t, para(" ab", api.Right), line(0, 3, 0, 30), false,
		api.Glyph{From: 0, To: 1, X: 20, W: 0}, api.Glyph{From: 1, To: 2, X: 20, W: 5}, api.Glyph{From: 2, To: 3, X: 25, W: 5})
	refused(t, abc(api.Left), line(2, 1, 0, 30), api.ErrRange)
}

// TestKinds: P13.2, a mass of each kind by itself, and between others: how wide it is.
func TestKinds(t *testing.T) {
	for text, w := range map[string]int{"a": 5, "M": 8, "a^": 5, "a^~": 5, "1": 5, ".": 2, "^": 3, "-": 3, "\x01": 0, "\x02": 5} {
		places(t, para(text, api.Left), line(0, len(text), 7, 30), false, 7, w)
		places(t, para(text+"b", api.Left), line(0, len(text)+1, 7, 30), false, 7, w, 7+w, 5)
		places(t, para("b "+text+" c", api.Left), line(0, len(text)+4, 7, 30), false, 7, 5, 12, 3, 15, w, 15+w, 3, 18+w, 5)
	}
	places(t, para("a\x1fb", api.Left), line(0, 3, 0, 30), false, 0, 5, 5, 0, 5, 5)
	places(t, para("\x1fb", api.Left), line(0, 2, 0, 30), false, 0, 0, 0, 5)
	places(t, para("a\tb", api.Left), line(0, 3, 0, 30), false, 0, 5, 5, 43, 48, 5)
	p := para("\x02a\x02", api.Left)
	p.Marks = []string{"12", "WWWWWWWW"}
	places(t, p, line(0, 3, 0, 30), false, 0, 10, 10, 5, 15, 64)
	places(t, p, line(2, 3, 0, 30), false, 0, 64)
	p = looking(para("a b.", api.Left), span(1, 16, 1, 0), span(1, 24, 2, 1), span(2, 0, 15, 0))
	places(t, p, line(0, 4, 0, 30), false, 0, 11, 11, 11, 22, 20, 42, 17)
}

// TestParts: P13.2, From and To at the text's ends, within it and equal to each other: just the masses between them count.
func TestParts(t *testing.T) {
	p := para("a b c", api.Left)
	places(t, p, line(0, 5, 10, 30), false, 10, 5, 15, 3, 18, 5, 23, 3, 26, 5)
	places(t, p, line(0, 3, 10, 30), false, 10, 5, 15, 3, 18, 5)
	places(t, p, line(0, 1, 10, 30), false, 10, 5)
	places(t, p, line(2, 5, 10, 30), false, 10, 5, 15, 3, 18, 5)
	places(t, p, line(4, 5, 10, 30), false, 10, 5)
	places(t, p, line(2, 3, 10, 30), false, 10, 5)
	accents := para("a^b`~c", api.Left)
	places(t, accents, line(0, 6, 0, 30), false, 0, 5, 5, 5, 10, 5)
	places(t, accents, line(2, 5, 0, 30), false, 0, 5)
	for _, align := range aligns {
		for _, last := range []bool{false, true} {
			for at := range 6 { // a line of nothing has no glyphs, and ends where it begins, however it is aligned
				stand(t, para("a b c", align), line(at, at, 10, 30), last)
			}
			stand(t, para("", align), line(0, 0, 10, 30), last)
			stand(t, para("", align), line(0, 0, 4095, 4095), last)
			stand(t, para("", align), line(0, 0, 0, 0), last)
		}
	}
}

// TestSlots: P13.2 and P11, X and W of 0 and of 4,095, and one beyond.
func TestSlots(t *testing.T) {
	for _, x := range []int{0, 1, 4094, 4095} {
		for _, w := range []int{0, 1, 4094, 4095} {
			places(t, para("a", api.Left), line(0, 1, x, w), false, x, 5)
			places(t, para("a", api.Full), line(0, 1, x, w), false, x, 5)
			places(t, para("a", api.Right), line(0, 1, x, w), false, x+max(w-5, 0), 5)
			places(t, para("a", api.Centre), line(0, 1, x, w), false, x+max(w-5, 0)/2, 5)
			refused(t, para("a", api.Left), line(0, 1, -1, w), api.ErrRange)
			refused(t, para("a", api.Left), line(0, 1, 4096, w), api.ErrRange)
		}
		refused(t, para("a", api.Left), line(0, 1, x, -1), api.ErrRange)
		refused(t, para("a", api.Left), line(0, 1, x, 4096), api.ErrRange)
	}
	places(t, para("a b", api.Full), line(0, 3, 4095, 4095), false, 4095, 5, 4100, 4085, 8185, 5)
}

// TestAligns: P13.2, each alignment, as the last line and as another, with an extra room of just 0, above 0 and below.
func TestAligns(t *testing.T) {
	natural := []int{3, 5, 8, 3, 11, 5, 16, 3, 19, 5}
	moved := func(by int) []int {
		l := slices.Clone(natural)
		for i := 0; i < len(l); i += 2 {
			l[i] += by
		}
		return l
	}
	for _, last := range []bool{false, true} {
		for _, w := range []int{0, 1, 19, 20, 21, 22, 23, 24, 30, 31, 4095} {
			l := line(0, 5, 3, w)
			places(t, para("a b c", api.Left), l, last, natural...)
			places(t, para("a b c", api.Right), l, last, moved(max(w-21, 0))...)
			places(t, para("a b c", api.Centre), l, last, moved(max(w-21, 0)/2)...)
			if last {
				places(t, para("a b c", api.Full), l, last, natural...)
			}
		}
	}
	full := para("a b c", api.Full)
	places(t, full, line(0, 5, 3, 21), false, natural...)
	places(t, full, line(0, 5, 3, 22), false, 3, 5, 8, 3, 11, 5, 16, 4, 20, 5)
	places(t, full, line(0, 5, 3, 23), false, 3, 5, 8, 4, 12, 5, 17, 4, 21, 5)
	places(t, full, line(0, 5, 3, 20), false, 3, 5, 8, 3, 11, 5, 16, 2, 18, 5)
	places(t, full, line(0, 5, 3, 19), false, 3, 5, 8, 2, 10, 5, 15, 2, 17, 5)
	places(t, full, line(0, 5, 3, 18), false, natural...) // more than the thirds give
	places(t, full, line(0, 5, 3, 0), false, natural...)
}

// TestCentre: P13.2, half of a room, odd or even, rounded down.
func TestCentre(t *testing.T) {
	for room := range 60 {
		for _, last := range []bool{false, true} {
			half := 0
			for ; 2*(half+1) <= room; half++ {
			}
			places(t, para("a", api.Centre), line(0, 1, 9, 5+room), last, 9+half, 5)
		}
	}
	for w := range 5 {
		places(t, para("a", api.Centre), line(0, 1, 9, w), false, 9, 5)
		places(t, para("a", api.Right), line(0, 1, 9, w), false, 9, 5)
	}
}

// TestFullWithoutBlanks: P13.2, with Full a line without blanks, one whose blanks are all left out and one with a tab are as Left.
func TestFullWithoutBlanks(t *testing.T) {
	for _, text := range []string{"a", "abc", "a.b", "a\x1fb", "a\x01b", " abc", "abc ", "   abc  ", "abc \x1f \x1f", "a\tb c", "a b\tc", "\ta b", "a b\t", " a b\t ", "\t", "   ", "\x1f \x1f", " \x1f"} {
		for _, x := range []int{0, 5} {
			for _, w := range []int{0, 11, 12, 13, 14, 20, 50, 60, 100, 4095} {
				for _, l := range []api.Line{line(0, len(text), x, w), ended(line(0, len(text), x, w))} {
					left, e := set.Place(para(text, api.Left), l, false)
					if e != api.OK {
						t.Error(e)
					}
					stand(t, para(text, api.Full), l, false, left...)
				}
			}
		}
	}
	// A tab that is not in the line does not count, nor does a blank.
	places(t, para("a b\tc d", api.Full), line(0, 3, 0, 20), false, 0, 5, 5, 10, 15, 5)
	places(t, para("a b\tc d", api.Full), line(4, 7, 0, 20), false, 0, 5, 5, 10, 15, 5)
	places(t, para("a b\tc d", api.Full), line(2, 5, 0, 60), false, 0, 5, 5, 43, 48, 5)
	// Blanks behind a soft hyphen are not ahead, and are spread.
	places(t, para(" \x1f a", api.Full), line(0, 4, 0, 20), false, 0, 0, 0, 0, 0, 15, 15, 5)
}

// TestSpread: P13.2, what the first blanks take together of a room above 0, rounded down.
func TestSpread(t *testing.T) {
	for k := 1; k <= 7; k++ {
		text := strings.Repeat("a ", k) + "a"
		p := para(text, api.Full)
		for room := range 40 {
			g, e := set.Place(p, line(0, len(text), 2, 8*k+5+room), false)
			if e != api.OK || len(g) != len(text) {
				t.Fatal(g, e)
			}
			for i := range k + 1 {
				took := 0
				for ; (took+1)*k <= room*i; took++ {
				}
				if must := 2 + 8*i + took; g[2*i].X != must || g[2*i].W != 5 {
					t.Errorf("%d blanks, %d more: letter %d is %v, not at %d", k, room, i, g[2*i], must)
				}
			}
		}
	}
	// All blanks take alike, however wide they are by nature, also such as are 0 wide.
	p := sized(para("a b c d", api.Full), 8, 8, 8, 64, 8, 1, 8)
	places(t, p, line(0, 7, 0, 5+3+5+24+5+0+5+9), false, 0, 5, 5, 6, 11, 5, 16, 27, 43, 5, 48, 3, 51, 5)
	p = sized(para("a b", api.Full), 8, 1, 8)
	places(t, p, line(0, 3, 0, 17), false, 0, 5, 5, 7, 12, 5)
	// Blanks one behind the other are each one of them.
	places(t, para("a  b", api.Full), line(0, 4, 0, 21), false, 0, 5, 5, 5, 10, 6, 16, 5)
	// Blanks that are left out take nothing.
	places(t, para(" a b  ", api.Full), line(0, 6, 0, 20), false, 0, 0, 0, 5, 5, 10, 15, 5, 20, 0, 20, 0)
	// A line that does not begin with its paragraph has no blanks ahead, and they are spread.
	places(t, para("x a b", api.Full), line(1, 5, 0, 21), false, 0, 5, 5, 5, 10, 6, 16, 5)
}

// TestShrink: P13.2, a room below 0 that is up to the thirds of the blanks, each rounded down, together, and one more; what the first ones take together, rounded towards 0.
func TestShrink(t *testing.T) {
	for _, sizes := range [][]int{{8}, {8, 8}, {8, 8, 8}, {16, 8}, {8, 16}, {64, 8, 24}, {1, 8, 1}, {5, 7, 64, 8, 33}, {64, 64}, {3, 1}, {2}} {
		text, all, natural, thirds := "a", []int{8}, 5, []int{0}
		var widths []int
		for _, n := range sizes {
			text, all = text+" a", append(all, n, 8)
			widths = append(widths, 3*n/8)
			natural += 3*n/8 + 5
			thirds = append(thirds, thirds[len(thirds)-1]+3*n/8/3)
		}
		p, most := sized(para(text, api.Full), all...), thirds[len(sizes)]
		for lack := 1; lack <= most+3; lack++ {
			if lack > natural {
				break
			}
			must, at := []int{0, 5}, 5
			for i, w := range widths {
				if lack <= most { // the first i give so much together
					w -= lack*thirds[i+1]/most - lack*thirds[i]/most
				}
				must = append(must, at, w, at+w, 5)
				at += w + 5
			}
			places(t, p, line(0, len(text), 0, natural-lack), false, must...)
			if lack <= most && at != natural-lack {
				t.Errorf("%v: ends at %d, not at %d", sizes, at, natural-lack)
			}
		}
	}
	// Thirds are rounded one by one: two blanks of 5 give 1 each.
	p := looking(para("a b c", api.Full), span(5, 8, 2, 0))
	places(t, p, line(0, 5, 0, 29), false, 0, 7, 7, 4, 11, 7, 18, 4, 22, 7)
	places(t, p, line(0, 5, 0, 28), false, 0, 7, 7, 5, 12, 7, 19, 5, 24, 7)
	// 1 less of blanks that give 8 and 1: the first takes none, both take 1.
	places(t, sized(para("a b c", api.Full), 8, 64, 8, 8, 8), line(0, 5, 0, 41), false, 0, 5, 5, 24, 29, 5, 34, 2, 36, 5)
	// 5 less: the first takes 40 by 9, which is 4.
	places(t, sized(para("a b c", api.Full), 8, 64, 8, 8, 8), line(0, 5, 0, 37), false, 0, 5, 5, 20, 25, 5, 30, 2, 32, 5)
	// Blanks that are left out give nothing.
	places(t, para("  a b  ", api.Full), line(0, 7, 0, 12), false, 0, 0, 0, 0, 0, 5, 5, 2, 7, 5, 12, 0, 12, 0)
	places(t, para("  a b  ", api.Full), line(0, 7, 0, 11), false, 0, 0, 0, 0, 0, 5, 5, 3, 8, 5, 13, 0, 13, 0)
	// The hyphen is part of what is too wide, and ends at the slot's right end.
	places(t, para("a b", api.Full), ended(line(0, 3, 0, 15)), false, 0, 5, 5, 2, 7, 5, 12, 3)
	places(t, para("a b", api.Full), ended(line(0, 3, 0, 14)), false, 0, 5, 5, 3, 8, 5, 13, 3)
}

// TestBlanksAhead: P13.2, blanks ahead are left out where From is 0, and stand where the first mass of another kind does; where From is another one, they are not.
func TestBlanksAhead(t *testing.T) {
	places(t, para("  a", api.Left), line(0, 3, 7, 30), false, 7, 0, 7, 0, 7, 5)
	places(t, para("  a", api.Right), line(0, 3, 7, 30), false, 32, 0, 32, 0, 32, 5)
	places(t, para("  a", api.Centre), line(0, 3, 7, 30), false, 19, 0, 19, 0, 19, 5)
	places(t, para("  a", api.Left), line(1, 3, 7, 30), false, 7, 3, 10, 5)
	places(t, para("  a", api.Right), line(1, 3, 7, 30), false, 29, 3, 32, 5)
	places(t, para("b  a", api.Left), line(1, 4, 7, 30), false, 7, 3, 10, 3, 13, 5)
	for text, w := range map[string]int{"1": 5, ".": 2, "\x01": 0, "\x02": 5, "a^": 5} {
		places(t, para("  "+text, api.Right), line(0, 2+len(text), 7, 30), false, 37-w, 0, 37-w, 0, 37-w, w)
	}
	// A tab and a soft hyphen are of another kind too: blanks behind them are not ahead.
	places(t, para(" \t a", api.Left), line(0, 4, 7, 30), false, 7, 0, 7, 41, 48, 3, 51, 5)
	places(t, para(" \x1f a", api.Left), line(0, 4, 7, 30), false, 7, 0, 7, 0, 7, 3, 10, 5)
	places(t, para("\x1f a", api.Left), line(0, 3, 7, 30), false, 7, 0, 7, 3, 10, 5)
	places(t, para(" \x1f a", api.Right), line(0, 4, 7, 30), false, 29, 0, 29, 0, 29, 3, 32, 5)
}

// TestBlanksAtTheEnd: P13.2, blanks and soft hyphens behind the last mass of another kind are left out, and stand where all others end, ahead of the hyphen.
func TestBlanksAtTheEnd(t *testing.T) {
	for _, tail := range []string{" ", "\x1f", "  ", " \x1f", "\x1f ", "\x1f\x1f", " \x1f \x1f ", "\x1f   \x1f"} {
		for _, head := range []string{"ab", "a1", "a^\x02", "1b"} {
			text := head + tail
			for align, x := range []int{7, 7, 27, 17} {
				must := []int{x, 5, x + 5, 5}
				for range tail {
					must = append(must, x+10, 0)
				}
				places(t, para(text, align), line(0, len(text), 7, 30), false, must...)
			}
		}
	}
	// Behind a tab they are at the end too; a tab is never left out.
	places(t, para("a\t \x1f", api.Left), line(0, 4, 0, 60), false, 0, 5, 5, 43, 48, 0, 48, 0)
	places(t, para("a \t", api.Right), line(0, 3, 0, 60), false, 12, 5, 17, 3, 20, 40)
	// An anchor, which is 0 wide, is of another kind.
	places(t, para("a \x01 ", api.Left), line(0, 4, 0, 60), false, 0, 5, 5, 3, 8, 0, 8, 0)
	places(t, para("a \x01 ", api.Right), line(0, 4, 0, 60), false, 52, 5, 57, 3, 60, 0, 60, 0)
	// What follows the line in its paragraph does not count.
	places(t, para("a b", api.Left), line(0, 2, 0, 60), false, 0, 5, 5, 0)
	places(t, para("a b", api.Right), line(0, 2, 0, 60), false, 55, 5, 60, 0)
	places(t, para("a b", api.Right), line(1, 3, 0, 60), false, 52, 3, 55, 5)
}

// TestBlanksAlone: P13.2, lines of blanks and soft hyphens alone: all of them are left out.
func TestBlanksAlone(t *testing.T) {
	for _, text := range []string{" ", "  ", "\x1f", " \x1f", "\x1f ", " \x1f ", "  \x1f\x1f  "} {
		for _, last := range []bool{false, true} {
			for i, at := range []int{7, 7, 38, 22} {
				var must []int
				for range len(text) {
					must = append(must, at, 0)
				}
				places(t, para(text, i), line(0, len(text), 7, 31), last, must...)
				if text[0] == ' ' && len(text) > 1 {
					places(t, para(text, i), line(1, len(text), 7, 31), last, must[2:]...)
				}
				// With a hyphen, which is 3 wide, ahead of which they all stand.
				hyphenAt := []int{7, 7, 35, 21}[i]
				must = nil
				for range len(text) {
					must = append(must, hyphenAt, 0)
				}
				places(t, para(text, i), ended(line(0, len(text), 7, 31)), last, append(must, hyphenAt, 3)...)
			}
		}
	}
	places(t, para("a   b", api.Right), line(1, 4, 0, 9), false, 9, 0, 9, 0, 9, 0)
}

// TestHyphen: P13.2, a hyphen behind a soft hyphen, behind another mass, and where all is left out, has the size that the chapter says, and no track.
func TestHyphen(t *testing.T) {
	for _, x := range []struct {
		text  string
		sizes []int
		must  int // the hyphen's size
	}{
		{"a", []int{16}, 16},
		{"ab", []int{16, 24}, 24},
		{"a.", []int{16, 24}, 24},
		{"a\x01", []int{16, 24}, 24},
		{"a\x02", []int{16, 24}, 24},
		{"a\t", []int{16, 24}, 24},
		{"a ", []int{16, 24}, 16},
		{"a  ", []int{16, 24, 32}, 16},
		{"a\x1f", []int{16, 24}, 24},
		{"a\x1f ", []int{16, 24, 32}, 24},
		{"a \x1f", []int{16, 24, 32}, 32},
		{"a\x1f\x1f", []int{16, 24, 32}, 32},
		{"a\x1f \x1f  ", []int{16, 24, 32, 40, 48, 56}, 40},
		{"a\x1fb", []int{16, 24, 32}, 32},
		{"a\x1fb ", []int{16, 24, 32, 40}, 32},
		{" a", []int{16, 24}, 24},
		{" ", []int{16}, 8},
		{"   ", []int{16, 24, 32}, 8},
		{"\x1f", []int{16}, 16},
		{" \x1f", []int{16, 24}, 24},
		{"\x1f ", []int{16, 24}, 16},
		{" \x1f \x1f ", []int{16, 24, 32, 40, 48}, 40},
		{"", nil, 8},
		{"a", []int{64}, 64},
		{"a", []int{1}, 1},
		{"a", []int{0}, 8},
		{" \x1f", []int{16, 0}, 8},
	} {
		p := sized(para(x.text, api.Left), x.sizes...)
		for i := range p.Spans {
			p.Spans[i].C.Track = 15
		}
		for _, p.P.Align = range aligns {
			g, e := set.Place(p, ended(line(0, len(x.text), 9, 4095)), false)
			if w := 3 * x.must / 8; e != api.OK || len(g) != len(x.text)+1 || g[len(g)-1].W != w || g[len(g)-1].From != len(x.text) || g[len(g)-1].To != len(x.text) {
				t.Errorf("%q, %v: %v, %v, not %d wide", x.text, x.sizes, g, e, w)
			}
		}
	}
	// A line of nothing within a text, and one behind which other sizes follow.
	p := sized(para("a\x1fb", api.Left), 16, 24, 32)
	places(t, p, ended(line(1, 1, 9, 30)), false, 9, 3)
	places(t, p, ended(line(0, 1, 9, 30)), false, 9, 10, 19, 6)
	places(t, p, ended(line(0, 2, 9, 30)), false, 9, 10, 19, 0, 19, 9)
	places(t, p, ended(line(1, 2, 9, 30)), false, 9, 0, 9, 9)
	places(t, p, ended(line(3, 3, 9, 30)), true, 9, 3)
	// It is the natural width's part, so that Right ends behind it, and of what is spread.
	places(t, para("ab", api.Right), ended(line(0, 2, 0, 30)), false, 17, 5, 22, 5, 27, 3)
	places(t, para("ab", api.Right), ended(line(0, 2, 0, 13)), false, 0, 5, 5, 5, 10, 3)
	places(t, para("ab", api.Right), ended(line(0, 2, 0, 12)), false, 0, 5, 5, 5, 10, 3)
	places(t, para("ab", api.Centre), ended(line(0, 2, 0, 30)), false, 8, 5, 13, 5, 18, 3)
	places(t, para("a b\x1f", api.Full), ended(line(0, 4, 0, 20)), false, 0, 5, 5, 7, 12, 5, 17, 0, 17, 3)
	places(t, para("a b\x1f", api.Full), ended(line(0, 4, 0, 20)), true, 0, 5, 5, 3, 8, 5, 13, 0, 13, 3)
}

// TestTabs: P13.2, tabs go to the next multiple of 48, counted from the column's left end, and stay as wide if the line is moved.
func TestTabs(t *testing.T) {
	for x := range 200 {
		stop := x + 1
		for stop%48 != 0 {
			stop++
		}
		places(t, para("\ta", api.Left), line(0, 2, x, 300), false, x, stop-x, stop, 5)
		places(t, para("\t\ta", api.Left), line(0, 3, x, 300), false, x, stop-x, stop, 48, stop+48, 5)
	}
	p := para("a\tb", api.Left)
	places(t, p, line(0, 3, 42, 300), false, 42, 5, 47, 1, 48, 5)
	places(t, p, line(0, 3, 43, 300), false, 43, 5, 48, 48, 96, 5)
	places(t, p, line(0, 3, 44, 300), false, 44, 5, 49, 47, 96, 5)
	places(t, p, line(0, 3, 4095, 0), false, 4095, 5, 4100, 28, 4128, 5)
	for _, last := range []bool{false, true} {
		places(t, para("a\tb", api.Right), line(0, 3, 0, 60), last, 7, 5, 12, 43, 55, 5)
		places(t, para("a\tb", api.Centre), line(0, 3, 0, 60), last, 3, 5, 8, 43, 51, 5)
		places(t, para("a b\tc", api.Full), line(0, 5, 0, 60), last, 0, 5, 5, 3, 8, 5, 13, 35, 48, 5)
		places(t, para("a\tb", api.Right), line(0, 3, 0, 53), last, 0, 5, 5, 43, 48, 5)
		places(t, para("a\tb", api.Right), line(0, 3, 0, 40), last, 0, 5, 5, 43, 48, 5)
	}
	// Blanks ahead do not count, a kerned mass does.
	places(t, para("  \ta", api.Left), line(0, 4, 47, 60), false, 47, 0, 47, 0, 47, 1, 48, 5)
	places(t, kerned(para("AV\ta", api.Left), 16), line(0, 4, 25, 60), false, 25, 12, 35, 12, 47, 1, 48, 10)
	places(t, kerned(para("AV\ta", api.Left), 16), line(0, 4, 26, 60), false, 26, 12, 36, 12, 48, 48, 96, 10)
	// A hyphen stands behind a tab too.
	places(t, para("a\t", api.Left), ended(line(0, 2, 0, 60)), false, 0, 5, 5, 43, 48, 3)
}

// TestFarTabs: P1 and P13.2, tabs in a line that is longer than places may be where stops are asked for.
func TestFarTabs(t *testing.T) {
	text := strings.Repeat("\t", 4096)
	var must []int
	for i := range text {
		must = append(must, 48*i, 48)
	}
	places(t, para(text, api.Left), line(0, 4096, 0, 60), false, must...)
	text = strings.Repeat("W", 2047) + "\ta"
	p := looking(para(text, api.Left), span(len(text), 64, 15, 0))
	g, e := set.Place(p, line(0, len(text), 4095, 60), false)
	at := 4095 + 2047*79
	stop := at + 1
	for stop%48 != 0 {
		stop++
	}
	if e != api.OK || g[2047] != (api.Glyph{From: 2047, To: 2048, X: at, W: stop - at}) || g[2048] != (api.Glyph{From: 2048, To: 2049, X: stop, W: 55}) {
		t.Error(g[2047:], e)
	}
}

// TestKerning: P13.2, masses that are kerned stand nearer to the one ahead: such as metric says, but not the line's first one.
func TestKerning(t *testing.T) {
	p := kerned(para("AVA", api.Left), 16)
	places(t, p, line(0, 3, 0, 60), false, 0, 12, 10, 12, 20, 12)
	places(t, p, line(1, 3, 0, 60), false, 0, 12, 10, 12)
	places(t, p, line(2, 3, 0, 60), false, 0, 12)
	places(t, p, line(0, 3, 9, 60), false, 9, 12, 19, 12, 29, 12)
	places(t, looking(para("AVA", api.Left), span(3, 16, 0, 0)), line(0, 3, 0, 60), false, 0, 12, 12, 12, 24, 12)
	places(t, looking(para("AVA", api.Left), span(2, 16, 0, 1), span(1, 16, 0, 0)), line(0, 3, 0, 60), false, 0, 12, 10, 12, 22, 12)
	places(t, looking(para("AVA", api.Left), span(2, 16, 0, 1), span(1, 24, 0, 1)), line(0, 3, 0, 60), false, 0, 12, 10, 12, 22, 18)
	places(t, kerned(para("r.A V", api.Left), 16), line(0, 5, 0, 60), false, 0, 6, 5, 4, 9, 12, 21, 6, 27, 12)
	places(t, kerned(para("A\x1fVA", api.Left), 16), line(0, 4, 0, 60), false, 0, 12, 12, 0, 12, 12, 22, 12)
	// They count in the natural width.
	p.P.Align = api.Right
	places(t, p, line(0, 3, 0, 60), false, 28, 12, 38, 12, 48, 12)
	places(t, p, line(1, 3, 0, 60), true, 38, 12, 48, 12)
	places(t, p, ended(line(0, 3, 0, 60)), false, 22, 12, 32, 12, 42, 12, 54, 6)
	p = kerned(para("AV AV", api.Full), 16)
	places(t, p, line(0, 5, 0, 60), false, 0, 12, 10, 12, 22, 16, 38, 12, 48, 12)
	places(t, p, line(0, 5, 0, 48), false, 0, 12, 10, 12, 22, 4, 26, 12, 36, 12)
	places(t, p, line(0, 5, 0, 47), false, 0, 12, 10, 12, 22, 6, 28, 12, 38, 12)
	// The greatest kerning of all.
	places(t, kerned(para("TAr,", api.Left), 64), line(0, 4, 0, 60), false, 0, 48, 40, 48, 88, 24, 108, 16)
	// A letter with accents is kerned by its first byte.
	places(t, kerned(para("A^V`~A", api.Left), 16), line(0, 6, 0, 60), false, 0, 12, 10, 12, 20, 12)
}

// TestKerningAtPenalties: P13.2, a mass where a Penalty of the paragraph's items stands is not kerned, wherever the line is broken.
func TestKerningAtPenalties(t *testing.T) {
	// Words that are parted between two letters that metric kerns.
	for _, text := range []string{"BATANO", "BA^TA`NO", "oALTeno"} {
		p := kerned(para(text, api.Left), 16)
		masses, _ := metric.Masses(p)
		word := strings.NewReplacer("^", "", "`", "").Replace(text)
		points, e := hyph.Plain().Points(word)
		if e != api.OK || len(points) != 1 || masses[points[0]].Kern != -2 {
			t.Fatalf("%q is parted at %v, %v, with %v", text, points, e, masses)
		}
		k := points[0]
		at := masses[k].From
		// natural is the X and W of masses that stand one behind the other, all but the parted one and the first one kerned.
		natural := func(l []api.Mass, parted int) []int {
			var out []int
			x := 0
			for i, m := range l {
				if i > 0 && i != parted {
					x += m.Kern
				}
				out = append(out, x, m.W)
				x += m.W
			}
			return out
		}
		places(t, p, whole(p, 300), false, natural(masses, -1)...)
		places(t, hyphened(p), whole(p, 300), false, natural(masses, k)...)
		if slices.Equal(natural(masses, -1), natural(masses, k)) {
			t.Errorf("%q: nothing is told apart", text)
		}
		// In a line that ends ahead of it, and in one that begins with it.
		head := natural(masses[:k], -1)
		places(t, hyphened(p), ended(line(0, at, 0, 300)), false, append(head, head[len(head)-2]+head[len(head)-1], 6)...)
		places(t, hyphened(p), line(at, len(text), 0, 300), false, natural(masses[k:], -1)...)
		places(t, p, line(at, len(text), 0, 300), false, natural(masses[k:], -1)...)
		// A paragraph's items hang on all of it: where the word goes on behind the line it is parted too, where it is cut in looks it is not.
		last := masses[len(masses)-1].From
		places(t, hyphened(p), line(0, last, 0, 300), false, natural(masses[:len(masses)-1], k)...)
		cut := p
		cut.Spans = []api.Span{span(masses[k+1].To, 16, 0, 1), span(len(text)-masses[k+1].To, 24, 0, 1)}
		places(t, hyphened(cut), line(0, masses[k+1].To, 0, 300), false, natural(masses[:k+2], -1)...)
	}
	// Behind a sign - and at a soft hyphen there is nothing to be kerned.
	places(t, hyphened(kerned(para("A-VA", api.Left), 16)), line(0, 4, 0, 60), false, 0, 12, 12, 6, 18, 12, 28, 12)
	places(t, hyphened(kerned(para("AV\x1fVA", api.Left), 16)), line(0, 5, 0, 60), false, 0, 12, 10, 12, 22, 0, 22, 12, 32, 12)
}

// TestDrop: P13.1, the room of drop capitals: of each Size and Drop, of letters of each width, with accents; 0 of paragraphs without one.
func TestDrop(t *testing.T) {
	for text, em := range map[string]int{"i": 2, "t": 3, "a": 5, "m": 7, "W": 8, "A": 6, "a^": 5, "a^~b": 5, "ab": 5, "a ": 5, "M\tb": 8} {
		for size := 1; size <= 64; size++ {
			for lines := range 5 {
				p := dropped(text, api.Left, lines)
				p.P.Size = size
				must := 0
				if lines > 1 {
					must = em*min(size*lines, 64)/8 + 4
				}
				drops(t, p, must)
				// What the span looks like does not count.
				drops(t, looking(p, span(len(text), 13, 9, 1)), must)
			}
		}
	}
	for _, text := range []string{"", " ", " a", "1a", ".", "^a", "-", "\ta", "\x1fa", "\x01a", "\x02a"} {
		for lines := range 5 {
			drops(t, dropped(text, api.Left, lines), 0)
		}
	}
	for _, x := range badParas() {
		if n, e := set.Drop(x.p); n != 0 || e != x.why {
			t.Errorf("drop of %q: %d, %v, not %v", short(x.p.Text), n, e, x.why)
		}
	}
}

// TestCapital: P13.2, a drop capital among a line's masses: it stands ahead of X, with its own width, however the line is aligned; the others from X on, without it.
func TestCapital(t *testing.T) {
	for i, at := range []int{20, 20, 45, 32} {
		for _, last := range []bool{false, true} {
			p := dropped("abc", i, 2)
			places(t, p, line(0, 3, 20, 35), last, 6, 10, at, 5, at+5, 5)
			places(t, p, line(0, 1, 20, 35), last, 6, 10)
			ends(t, p, line(0, 1, 20, 35), last, 16)
			// From behind it on it is not among them.
			places(t, p, line(1, 3, 20, 35), last, at, 5, at+5, 5)
			stand(t, p, line(0, 0, 20, 35), last)
			stand(t, p, line(1, 1, 20, 35), last)
		}
	}
	for lines, w := range map[int]int{2: 10, 3: 15, 4: 20} {
		places(t, dropped("ab", api.Left, lines), line(0, 2, 30, 35), false, 26-w, w, 30, 5)
	}
	// At most 64.
	for size, w := range map[int]int{15: 37, 16: 40, 17: 40, 64: 40} {
		p := dropped("ab", api.Left, 4)
		p.P.Size = size
		places(t, p, line(0, 2, 100, 35), false, 96-w, w, 100, 5*size/8)
	}
	// Drop of 0 and 1, and a first mass that is no letter, are none.
	for lines := range 2 {
		places(t, dropped("ab", api.Left, lines), line(0, 2, 20, 35), false, 20, 5, 25, 5)
	}
	for _, lines := range []int{2, 3, 4} {
		places(t, dropped("1b", api.Left, lines), line(0, 2, 20, 35), false, 20, 5, 25, 5)
		places(t, dropped(" ab", api.Left, lines), line(0, 3, 20, 35), false, 20, 0, 20, 5, 25, 5)
		places(t, dropped("\x01ab", api.Left, lines), line(0, 3, 20, 35), false, 20, 0, 20, 5, 25, 5)
		places(t, dropped("\x1fab", api.Left, lines), line(0, 3, 20, 35), false, 20, 0, 20, 5, 25, 5)
	}
	// It may stand ahead of the column, if X is less than its room.
	places(t, dropped("ab", api.Left, 2), line(0, 2, 0, 35), false, -14, 10, 0, 5)
	places(t, dropped("ab", api.Left, 2), line(0, 2, 13, 35), false, -1, 10, 13, 5)
	p := dropped("Wb", api.Left, 4)
	p.P.Size = 64
	places(t, p, line(0, 2, 0, 0), false, -68, 64, 0, 40)
	// It takes its accents with it; its look does not count.
	places(t, dropped("a^~b", api.Left, 2), line(0, 4, 20, 35), false, 6, 10, 20, 5)
	places(t, looking(dropped("ab", api.Left, 2), span(1, 64, 15, 1), span(1, 16, 1, 1)), line(0, 2, 20, 35), false, 6, 10, 20, 11)
}

// TestBehindCapital: P13.2, what stands behind a drop capital: no kerning, blanks as if it were not there, tabs, a hyphen, spread lines.
func TestBehindCapital(t *testing.T) {
	p := kerned(dropped("AVA", api.Left, 2), 16)
	places(t, p, line(0, 3, 20, 60), false, 4, 12, 20, 12, 30, 12)
	places(t, p, line(1, 3, 20, 60), false, 20, 12, 30, 12)
	p.P.Drop = 1
	places(t, p, line(0, 3, 20, 60), false, 20, 12, 30, 12, 40, 12)
	// Blanks behind it are ahead of the line's others, where there are any, else at the end.
	places(t, dropped("a  b", api.Left, 2), line(0, 4, 20, 30), false, 6, 10, 20, 0, 20, 0, 20, 5)
	places(t, dropped("a  b", api.Right, 2), line(0, 4, 20, 30), false, 6, 10, 45, 0, 45, 0, 45, 5)
	places(t, dropped("a  b", api.Left, 2), line(1, 4, 20, 30), false, 20, 3, 23, 3, 26, 5)
	places(t, dropped("a  ", api.Left, 2), line(0, 3, 20, 30), false, 6, 10, 20, 0, 20, 0)
	places(t, dropped("a  ", api.Right, 2), line(0, 3, 20, 30), false, 6, 10, 50, 0, 50, 0)
	places(t, dropped("a \x1f", api.Centre, 2), line(0, 3, 20, 30), false, 6, 10, 35, 0, 35, 0)
	places(t, dropped("a\tb", api.Left, 2), line(0, 3, 20, 30), false, 6, 10, 20, 28, 48, 5)
	places(t, dropped("a b c", api.Full, 2), line(0, 5, 20, 30), false, 6, 10, 20, 0, 20, 5, 25, 20, 45, 5)
	places(t, dropped("a b", api.Full, 2), line(0, 3, 20, 30), false, 6, 10, 20, 0, 20, 5)
	places(t, dropped("ab c", api.Full, 2), line(0, 4, 20, 12), false, 6, 10, 20, 5, 25, 2, 27, 5)
	// A hyphen stands from X on, of the paragraph's size, if there is no other mass.
	p = looking(dropped("a", api.Left, 2), span(1, 64, 0, 0))
	places(t, p, ended(line(0, 1, 20, 30)), false, 6, 10, 20, 3)
	p.P.Align = api.Right
	places(t, p, ended(line(0, 1, 20, 30)), false, 6, 10, 47, 3)
	p = sized(dropped("a  ", api.Left, 2), 64, 32, 32)
	places(t, p, ended(line(0, 3, 20, 30)), false, 6, 10, 20, 0, 20, 0, 20, 3)
	p = sized(dropped("a \x1f", api.Left, 2), 64, 32, 16)
	places(t, p, ended(line(0, 3, 20, 30)), false, 6, 10, 20, 0, 20, 0, 20, 6)
	p = sized(dropped("ab", api.Left, 2), 64, 16)
	places(t, p, ended(line(0, 2, 20, 30)), false, 6, 10, 20, 10, 30, 6)
}

// TestEnd: P13.2, where the last glyph ends, X of a line without any.
func TestEnd(t *testing.T) {
	ends(t, para("a b", api.Left), line(0, 3, 0, 30), false, 13)
	ends(t, para("a b", api.Left), line(0, 3, 4, 30), false, 17)
	ends(t, para("a b", api.Right), line(0, 3, 4, 30), false, 34)
	ends(t, para("a b", api.Centre), line(0, 3, 4, 30), false, 25)
	ends(t, para("a b", api.Full), line(0, 3, 4, 30), false, 34)
	ends(t, para("a b", api.Full), line(0, 3, 4, 30), true, 17)
	ends(t, para("a b", api.Full), line(0, 3, 4, 12), false, 16)
	ends(t, para("a b", api.Full), line(0, 3, 4, 11), false, 17)
	ends(t, para("a b  ", api.Left), line(0, 5, 4, 30), false, 17)
	ends(t, para("a b  ", api.Left), ended(line(0, 5, 4, 30)), false, 20)
	ends(t, para("  ", api.Left), line(0, 2, 4, 30), false, 4)
	ends(t, para("  ", api.Right), line(0, 2, 4, 30), false, 34)
	ends(t, para("", api.Right), line(0, 0, 4, 30), false, 4)
	ends(t, para("", api.Right), ended(line(0, 0, 4, 30)), false, 34)
	ends(t, dropped("a", api.Right, 2), line(0, 1, 40, 30), false, 36)
}

// TestWhatIsNotAsked: P13.2, a line's Natural and Flag count for nothing.
func TestWhatIsNotAsked(t *testing.T) {
	for _, n := range far {
		l := ended(line(0, 5, 3, 30))
		l.Natural, l.Flag = n, n
		places(t, para("a b c", api.Full), l, false, 3, 5, 8, 6, 14, 5, 19, 6, 25, 5, 30, 3)
	}
	// Nor do those properties of the paragraph that are of no line.
	p := para("a b c", api.Full)
	p.P = api.Props{Size: 8, Pitch: 255, Align: api.Full, First: 255, In: 255, Out: 255, Before: 255, After: 255, Next: 1, Whole: 1, Orphan: 4, Widow: 4, Least: 1, Drop: 1, List: 8, Level: 3}
	p.Label = "viii."
	places(t, p, line(0, 5, 0, 24), false, 0, 5, 5, 4, 9, 5, 14, 5, 19, 5)
}

// bad is a paragraph that may not be, and why.
type bad struct {
	p   api.Para
	why api.Errno
}

// badParas tells paragraphs that may not be: for one reason, and for several at once.
func badParas() []bad {
	long := strings.Repeat("a", 4097)
	l := []bad{
		{para(long, api.Left), api.ErrLong},
		{para(long+"\n", api.Left), api.ErrLong},
		{looking(para(long, 9)), api.ErrLong},
		{para("a\nb", api.Left), api.ErrBytes},
		{para("a\x03b", api.Left), api.ErrBytes},
		{para("a\x04b", api.Left), api.ErrBytes},
		{para("a\x7fb", api.Left), api.ErrBytes},
		{para("a\xffb", api.Left), api.ErrBytes},
		{looking(para("a\nb", -1)), api.ErrBytes},
		{looking(para("abc", api.Left)), api.ErrArg},
		{looking(para("abc", api.Left), span(2, 0, 0, 0)), api.ErrArg},
		{looking(para("abc", api.Left), span(4, 0, 0, 0)), api.ErrArg},
		{looking(para("abc", api.Left), span(3, 65, 0, 0)), api.ErrArg},
		{looking(para("abc", api.Left), span(3, 0, 16, 0)), api.ErrArg},
		{looking(para("abc", api.Left), span(3, 0, 0, 2)), api.ErrArg},
		{para("abc", -1), api.ErrArg},
		{para("abc", 4), api.ErrArg},
		{dropped("abc", api.Left, -1), api.ErrArg},
		{dropped("abc", api.Left, 5), api.ErrArg},
		{api.Para{}, api.ErrArg},
		{api.Para{Text: "abc"}, api.ErrArg},
	}
	for _, n := range far {
		l = append(l, bad{para("abc", n), api.ErrArg}, bad{dropped("abc", api.Left, n), api.ErrArg})
		p := para("abc", api.Full)
		p.P.Size = n
		l = append(l, bad{p, api.ErrArg})
	}
	p := para("a\x02b", api.Left)
	p.Marks = nil
	l = append(l, bad{p, api.ErrArg})
	p = para("abc", api.Left)
	p.Label = "a b"
	l = append(l, bad{p, api.ErrArg})
	return l
}

// TestBadParas: P13.2, metric.Check's errors, ahead of that of a line that may not be.
func TestBadParas(t *testing.T) {
	for _, x := range badParas() {
		if e := metric.Check(x.p); e != x.why {
			t.Errorf("check of %q: %v, not %v", short(x.p.Text), e, x.why)
		}
		for _, l := range []api.Line{line(0, 0, 0, 0), whole(x.p, 30), line(2, 1, 0, 0), line(-1, 0, 0, 0), line(0, 9999, 0, 0), line(0, 0, -1, 0), line(0, 0, 0, 4096), {From: 2, To: 1, X: -1, W: -1, Hyphen: true}} {
			refused(t, x.p, l, x.why)
		}
	}
}

// TestBadLines: P13.2 and P11, ErrRange just of a line that may not be.
func TestBadLines(t *testing.T) {
	p := para("a^b c`~", api.Left)
	bounds := []int{0, 2, 3, 4, 7}
	for from := -2; from <= 9; from++ {
		for to := -2; to <= 9; to++ {
			for _, x := range []int{-1, 0, 4095, 4096} {
				for _, w := range []int{-1, 0, 4095, 4096} {
					l := line(from, to, x, w)
					if slices.Contains(bounds, from) && slices.Contains(bounds, to) && from <= to && x >= 0 && x <= 4095 && w >= 0 && w <= 4095 {
						if _, e := set.Place(p, l, false); e != api.OK {
							t.Errorf("place of %v: %v", l, e)
						}
						if _, e := set.End(p, l, false); e != api.OK {
							t.Errorf("end of %v: %v", l, e)
						}
						continue
					}
					refused(t, p, l, api.ErrRange)
				}
			}
		}
	}
	for _, n := range far {
		for _, text := range []string{"", "a", "a b", "a^", strings.Repeat("a", 4096)} {
			p := dropped(text, api.Full, 2)
			refused(t, p, line(n, len(text), 0, 0), api.ErrRange)
			refused(t, p, line(0, n, 0, 0), api.ErrRange)
			refused(t, p, line(n, n, 0, 0), api.ErrRange)
			refused(t, p, line(0, 0, n, 0), api.ErrRange)
			refused(t, p, line(0, 0, 0, n), api.ErrRange)
			refused(t, p, line(n, n, n, n), api.ErrRange)
		}
	}
	refused(t, para("", api.Left), line(0, 1, 0, 0), api.ErrRange)
	refused(t, para("", api.Left), line(1, 1, 0, 0), api.ErrRange)
	refused(t, para("ab", api.Left), line(0, 3, 0, 0), api.ErrRange)
	// A line without masses is refused too, though nothing of it would stand anywhere.
	refused(t, para("a^b", api.Left), line(1, 1, 0, 0), api.ErrRange)
}

// TestMost: P1 and P11, paragraphs of 4,096 bytes: as wide as can be, kerned, of blanks alone, of spread blanks.
func TestMost(t *testing.T) {
	text := strings.Repeat("W", 4096)
	for _, align := range aligns {
		p := looking(para(text, align), span(4096, 64, 15, 1))
		g, e := set.Place(p, ended(line(0, 4096, 4095, 4095)), false)
		if e != api.OK || len(g) != 4097 || g[4095].X != 4095+4095*79 || g[4096].X != 4095+4096*79 || g[4096].W != 24 {
			t.Error(len(g), e)
		}
	}
	p := kerned(para(strings.Repeat("AV", 2048), api.Left), 64)
	if n, e := set.End(p, line(0, 4096, 0, 0), false); n != 4096*48-4095*8 || e != api.OK {
		t.Error(n, e)
	}
	text = strings.Repeat("a ", 2048)
	p = sized(para(text, api.Full), slices.Repeat([]int{1}, 4096)...)
	if g, e := set.Place(p, line(0, 4095, 0, 4095), false); e != api.OK || len(g) != 4095 || g[4094].X != 4095 || g[1] != (api.Glyph{From: 1, To: 2, X: 0, W: 2}) {
		t.Error(g[:3], e)
	}
	for _, align := range aligns {
		blank := para(strings.Repeat(" ", 4096), align)
		g, e := set.Place(blank, line(0, 4096, 7, 30), false)
		if at := []int{7, 7, 37, 22}[align]; e != api.OK || len(g) != 4096 || g[0] != (api.Glyph{From: 0, To: 1, X: at}) || g[4095] != (api.Glyph{From: 4095, To: 4096, X: at}) {
			t.Error(e)
		}
	}
	p = para(strings.Repeat("\x02", 4096), api.Right)
	p.P.Size = 64
	p.Marks = slices.Repeat([]string{"WWWWWWWW"}, 4096)
	ends(t, p, line(0, 4096, 4095, 4095), false, 4095+4096*512)
}

// TestListsStayAsTheyWere: rule 4, what is handed in is not changed, its spare room neither read nor written.
func TestListsStayAsTheyWere(t *testing.T) {
	text := "AVa table\x02 To b\x02  "
	p := hyphened(dropped(text, api.Full, 2))
	p.Spans = append(make([]api.Span, 0, 9), span(9, 16, 0, 1), span(len(text)-9, 0, 2, 1))
	p.Marks = append(make([]string, 0, 9), "12", "3")
	for i := range p.Spans[2:9] {
		p.Spans[2:9][i] = span(-1, -1, -1, -1)
	}
	for i := range p.Marks[2:9] {
		p.Marks[2:9][i] = "no mark"
	}
	spans, marks := slices.Clone(p.Spans[:9]), slices.Clone(p.Marks[:9])
	tight := p
	tight.Spans, tight.Marks = slices.Clip(slices.Clone(p.Spans)), slices.Clip(slices.Clone(p.Marks))
	for _, p.P.Align = range aligns {
		tight.P.Align = p.P.Align
		for _, l := range []api.Line{line(0, len(text), 40, 300), ended(line(0, 9, 40, 100)), line(3, 1, 0, 0)} {
			must, e := set.Place(tight, l, false)
			if g, f := set.Place(p, l, false); f != e || !slices.Equal(g, must) {
				t.Errorf("place with spare room: %v, %v, not %v, %v", g, f, must, e)
			}
			n, e := set.End(tight, l, false)
			if m, f := set.End(p, l, false); f != e || m != n {
				t.Errorf("end with spare room: %v, %v, not %v, %v", m, f, n, e)
			}
			drops(t, p, 16)
			if !slices.Equal(p.Spans[:9], spans) || !slices.Equal(p.Marks[:9], marks) {
				t.Error("lists were changed")
			}
		}
	}
}

// TestAnswersAreNewMemory: rule 4, glyphs that are written over, their spare room too, change nothing that is told later, and lists that are written over change no glyphs.
func TestAnswersAreNewMemory(t *testing.T) {
	p := dropped("ab c d ", api.Full, 2)
	l := ended(line(0, 7, 20, 36))
	must := []int{6, 10, 20, 5, 25, 9, 34, 5, 39, 9, 48, 5, 53, 0, 53, 3}
	g, _ := set.Place(p, l, false)
	h, _ := set.Place(p, l, false)
	was := slices.Clone(h)
	for i := range g[:cap(g)] {
		g[:cap(g)][i] = api.Glyph{From: -9, To: -9, X: -9, W: -9}
	}
	if !slices.Equal(h, was) {
		t.Error("two answers share memory: ", h)
	}
	places(t, p, l, false, must...)
	clear(p.Spans)
	if !slices.Equal(h, was) {
		t.Error("an answer shares memory with what was handed in: ", h)
	}
}

// TestNothingIsKept: P1, what is told hangs on what is handed in alone, not on what was asked ahead.
func TestNothingIsKept(t *testing.T) {
	p := para("a b c", api.Full)
	for range 3 {
		places(t, p, line(0, 5, 0, 24), false, 0, 5, 5, 4, 9, 5, 14, 5, 19, 5)
		places(t, p, line(0, 5, 0, 24), true, 0, 5, 5, 3, 8, 5, 13, 3, 16, 5)
		refused(t, p, line(0, 6, 0, 24), api.ErrRange)
		refused(t, para("\n", api.Full), line(0, 0, 0, 24), api.ErrBytes)
		p.Spans[0].C.Size = 16
		places(t, p, line(0, 5, 0, 43), false, 0, 10, 10, 6, 16, 10, 26, 7, 33, 10)
		p.Spans[0].C.Size = 0
		drops(t, p, 0)
		p.P.Drop = 2
		drops(t, p, 14)
		p.P.Drop = 0
	}
}

// TestSideBySide: rule 8, calls on the same paragraph at the same time do not disturb one another.
func TestSideBySide(t *testing.T) {
	p := hyphened(dropped(strings.Repeat("AVa table b-c vovo ", 20), api.Full, 3))
	p.Spans[0].C.Kern = 1
	l := line(0, 90, 40, 600)
	must, e := set.Place(p, l, false)
	if e != api.OK {
		t.Fatal(e)
	}
	var all sync.WaitGroup
	for range 8 {
		all.Go(func() {
			for range 50 {
				stand(t, p, l, false, must...)
				drops(t, p, 22)
			}
		})
	}
	all.Wait()
}
