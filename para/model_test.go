package para_test

import (
	"slices"
	"strings"
	"testing"

	"quire/api"
	"quire/cluster"
	"quire/first"
	"quire/item"
	"quire/least"
	"quire/metric"
	"quire/para"
	"quire/set"
)

// chance tells numbers that look like chance, the same ones each time.
func chance(seed uint32) func(n int) int {
	return func(n int) int {
		seed = seed*1664525 + 1013904223
		return int(seed>>8) % n
	}
}

// texts goes through all texts of up to so many of some bytes.
func texts(bytes string, most int) func(yield func(string) bool) {
	return func(yield func(string) bool) {
		l := []string{""}
		for n := 0; ; n++ {
			var longer []string
			for _, s := range l {
				if !yield(s) {
					return
				}
				for i := range bytes {
					longer = append(longer, s+bytes[i:i+1])
				}
			}
			if n == most {
				return
			}
			l = longer
		}
	}
}

// isLetter tells whether a byte is an alphabet's letter.
func isLetter(c byte) bool { return c >= 'a' && c <= 'z' || c >= 'A' && c <= 'Z' }

// leftSide tells the left side of line n, word by word.
func leftSide(p api.Para, n int) int {
	left := p.P.In
	if n == 0 {
		left += p.P.First
		for i := range p.Label {
			left += metric.Em(p.Label[i]) * p.P.Size / 8
		}
		if p.Label != "" {
			left += 4
		}
	}
	if n < p.P.Drop && p.P.Drop > 1 && p.Text != "" && isLetter(p.Text[0]) {
		left += metric.Em(p.Text[0])*min(64, p.P.Size*p.P.Drop)/8 + 4
	}
	return left
}

// slotOf tells the slot of line n, as the model has it.
func slotOf(s []api.Slot, rest api.Slot, n int) api.Slot {
	return append(slices.Clone(s), slices.Repeat([]api.Slot{rest}, n+1)...)[n]
}

// innerOf tells the inner slot of line n, as the model has it.
func innerOf(p api.Para, s []api.Slot, rest api.Slot, n int) api.Slot {
	outer, left := slotOf(s, rest, n), leftSide(p, n)
	inner := slot(outer.X+left, outer.W-left-p.P.Out)
	if inner.X > 4095 {
		inner.X = 4095
	}
	if inner.W < 0 {
		inner.W = 0
	}
	return inner
}

// modelInner tells the inner profile, as the model has it.
func modelInner(p api.Para, s []api.Slot, rest api.Slot) ([]api.Slot, api.Slot) {
	var l []api.Slot
	for n := 0; n < len(s) || n < 1 || n < p.P.Drop; n++ {
		l = append(l, innerOf(p, s, rest, n))
	}
	return l, innerOf(p, s, rest, len(l)+9)
}

// modelPieces tells a paragraph's pieces, whether least.Break made them, and whether it is loose, as the model has it.
func modelPieces(p api.Para, s []api.Slot, rest api.Slot) (pieces []api.Piece, shrinks, loose bool) {
	items, _ := item.Items(p)
	inner, within := modelInner(p, s, rest)
	if p.P.Least == 1 && !strings.Contains(p.Text, "\t") {
		l, _, e := least.Break(items, inner, within)
		if e != api.ErrMissing {
			return l, true, false
		}
		loose = true
	}
	l, _ := first.Break(items, inner, within)
	return l, false, loose
}

// modelLines tells a paragraph's lines, as the model has it: a line's bytes are those of its items, of what is left out ahead of them, if it is the first one, and of what is left out behind them.
func modelLines(p api.Para, s []api.Slot, rest api.Slot) []api.Line {
	items, _ := item.Items(p)
	pieces, shrinks, loose := modelPieces(p, s, rest)
	var out []api.Line
	for n, x := range pieces {
		in := innerOf(p, s, rest, n)
		l := api.Line{X: in.X, W: in.W, Hyphen: x.Hyphen}
		if n > 0 {
			l.From = out[n-1].To
		}
		l.To = len(p.Text)
		if n < len(pieces)-1 {
			l.To = items[pieces[n+1].A].From
		}
		l.Natural, _ = item.Width(items, x.A, x.B, in.X)
		_, shrink, _ := item.Give(items, x.A, x.B)
		if !shrinks && x.Wide || l.Natural > l.W+shrink {
			l.Flag |= 1
		}
		if loose {
			l.Flag |= 2
		}
		out = append(out, l)
	}
	return out
}

// compare holds a paragraph in a profile against the model, and against what follows.
func compare(t *testing.T, p api.Para, s []api.Slot, rest api.Slot) {
	t.Helper()
	inner, within := modelInner(p, s, rest)
	leaves(t, p, s, rest, within, inner...)
	lays(t, p, s, rest, modelLines(p, s, rest)...)
	l, _ := para.Lay(p, s, rest)
	follows(t, p, inner, within, l)
	if p.P.Least == 0 || strings.Contains(p.Text, "\t") {
		withOthers(t, p, s, rest, l)
	}
}

// follows: P14.3 and P4, what is said of all lines.
func follows(t *testing.T, p api.Para, inner []api.Slot, within api.Slot, l []api.Line) {
	t.Helper()
	text := ""
	for n, x := range l {
		if x.From > x.To || x.From != len(text) {
			t.Fatalf("%q: line %v behind %d bytes", short(p.Text), x, len(text))
		}
		text += p.Text[x.From:x.To]
		if !cluster.Bound(p.Text, x.From) || !cluster.Bound(p.Text, x.To) {
			t.Errorf("%q: line %v parts a cluster", short(p.Text), x)
		}
		if in := slotOf(inner, within, n); x.X != in.X || x.W != in.W {
			t.Errorf("%q: line %v, not in %v", short(p.Text), x, in)
		}
		ends(t, p, x, n == len(l)-1)
	}
	if text != p.Text || len(l) == 0 {
		t.Errorf("%q: lines %v are %q", short(p.Text), few(l), short(text))
	}
}

// ends: P14.3, a line that is not Wide ends in its slot, however it is aligned: if it is wider by nature, where its blanks shrink: with Full, if it is not the last one; elsewhere it is so much wider as they could shrink, at most.
func ends(t *testing.T, p api.Para, l api.Line, last bool) {
	t.Helper()
	if l.Flag&api.Wide != 0 {
		return
	}
	if l.Natural > l.W && (p.P.Least == 0 || l.Flag&api.Loose != 0) {
		t.Errorf("%q: line %v is not Wide", short(p.Text), l)
	}
	for _, p.P.Align = range aligns {
		at, e := set.End(p, l, last)
		most := l.X + l.W
		if l.Natural > l.W && (last || p.P.Align != api.Full) {
			most = l.X + l.Natural
		}
		if e != api.OK || at > most {
			t.Errorf("%q, Align %d: line %v ends at %d, %v", short(p.Text), p.P.Align, l, at, e)
		}
	}
}

// withOthers: P14.3, slots that no line of a paragraph has that is broken as it fits change none of its lines.
func withOthers(t *testing.T, p api.Para, s []api.Slot, rest api.Slot, l []api.Line) {
	t.Helper()
	if len(l) > 250 {
		return
	}
	var had []api.Slot
	for n := range l {
		had = append(had, slotOf(s, rest, n))
	}
	lays(t, p, had, slot(0, 0), l...)
	lays(t, p, had, slot(4095, 4095), l...)
	lays(t, p, slices.Concat(had, slots(0, 0, 4095, 4095, 77, 33)), rest, l...)
}

// TestModelItself: the model does as the chapter's examples say.
func TestModelItself(t *testing.T) {
	p := block("a b c d")
	for _, x := range []struct {
		p    api.Para
		rest api.Slot
		must []api.Line
	}{
		{p, slot(0, 13), []api.Line{line(0, 4, 0, 13, 13), line(4, 7, 0, 13, 13)}},
		{indented(p, 5, 2, 1), slot(0, 21), []api.Line{line(0, 4, 7, 13, 13), line(4, 7, 2, 18, 13)}},
		{labelled(p, "1."), slot(10, 24), []api.Line{line(0, 4, 21, 13, 13), line(4, 7, 10, 24, 13)}},
		{block(""), slot(3, 9), []api.Line{line(0, 0, 3, 9, 0)}},
		{best(p), slot(0, 4), []api.Line{odd(line(0, 2, 0, 4, 5), 3), odd(line(2, 4, 0, 4, 5), 3), odd(line(4, 6, 0, 4, 5), 3), odd(line(6, 7, 0, 4, 5), 3)}},
	} {
		if l := modelLines(x.p, nil, x.rest); !slices.Equal(l, x.must) {
			t.Errorf("%q: %v, not %v", x.p.Text, l, x.must)
		}
	}
}

// TestAllShortTexts: P14.2 and P14.3, all texts of up to four bytes of each kind, and of up to six of some, in slots of few widths.
func TestAllShortTexts(t *testing.T) {
	for text := range texts("a- \t\x1f^\x02", 4) {
		for _, w := range []int{0, 5, 8, 11, 13, 50} {
			compare(t, block(text), nil, slot(40, w))
			compare(t, best(dropped(block(text), 2)), slots(3, w+20), slot(9, w))
		}
	}
	for text := range texts("a \x1f", 6) {
		for _, w := range []int{4, 5, 9, 12, 14, 18, 20} {
			compare(t, best(block(text)), nil, slot(1, w))
			compare(t, indented(block(text), 3, 2, 1), slots(0, w+2, 7, 9), slot(1, w))
		}
	}
}

// TestAllWidths: P14.2 and P14.3, some paragraphs in slots of all widths up to where they are one line.
func TestAllWidths(t *testing.T) {
	for _, text := range []string{"a b c d", "aa b  cc ddd e", "a well-made table", "  ab\x1f  cd \x1f e ", "a\tbb c\td", "AV To vo r. ", "hyphenation of tables"} {
		p := hyphened(looking(block(text), span(len(text), 8, 0, 1)))
		for w := range 200 {
			for p.P.Least = range 2 {
				compare(t, p, nil, slot(w%7, w))
				compare(t, dropped(labelled(indented(p, 9, 4, 3), "iv."), w%5), slots(1, w+30, 2, w, 3, w+5), slot(4, w))
			}
		}
	}
}

// paragraph makes a paragraph that may be of so many bytes, with properties and looks of all kinds.
func paragraph(next func(n int) int, n int) api.Para {
	from := []string{"table- ", "ab  c ", "BATeLTano.r,-", "a-b \t\x1f\x01\x02^~", "vovo- \x1f", "a \x1f", "hyphenation^`- ", "AVAVov vr.- ", "a b c d e "}[next(9)]
	text := make([]byte, n)
	for i := range text {
		text[i] = from[next(len(from))]
	}
	p := api.Para{Text: string(text), P: api.Props{Size: 1 + next(64), Pitch: 1, Orphan: 1, Widow: 1, Align: next(4), Hyphen: min(next(3), 1), Least: min(next(3), 1), Drop: next(5)}}
	if next(2) == 0 {
		p.P.Size = 8
	}
	if next(2) == 0 {
		p.P.First, p.P.In, p.P.Out = next(256)*next(2), next(30)*next(2), next(30)*next(2)
	}
	p.Label = []string{"", "", "1.", "viii)", "WWWWWWWWWWWWWWWW"}[next(5)]
	for range strings.Count(p.Text, "\x02") {
		p.Marks = append(p.Marks, []string{"1", "12", "WWWWWWWW"}[next(3)])
	}
	sizes := []int{0, p.P.Size, 1 + next(64)}[:1+next(3)]
	for n > 0 {
		k := 1 + next(min(n, 9))
		p.Spans = append(p.Spans, api.Span{Len: k, C: api.Char{Size: sizes[next(len(sizes))], Track: next(4) * next(6), Kern: min(next(4), 1)}})
		n -= k
	}
	return p
}

// profileOf makes a profile that may be, of slots about as wide as each other.
func profileOf(next func(n int) int) ([]api.Slot, api.Slot) {
	w := []int{next(60), next(300), next(1200), next(4096)}[next(4)]
	one := func() api.Slot {
		if next(20) == 0 {
			return slot([]int{0, 4095}[next(2)], []int{0, 4095}[next(2)])
		}
		return slot(next(100), min(w+next(20), 4095))
	}
	var s []api.Slot
	for range []int{0, next(4), next(20)}[next(3)] {
		s = append(s, one())
	}
	return s, one()
}

// TestModel: P14.1 to P14.3, many paragraphs, short and long, in many profiles.
func TestModel(t *testing.T) {
	next := chance(14)
	for range 3000 {
		p := paragraph(next, next(60))
		s, rest := profileOf(next)
		compare(t, p, s, rest)
	}
	for range 60 {
		p := paragraph(next, 200+next(400))
		s, rest := profileOf(next)
		compare(t, p, s, rest)
	}
	for range 3 {
		compare(t, paragraph(next, 4096), nil, slot(0, 400))
	}
}

// words makes a text of words and blanks that least.Break can often break.
func words(next func(n int) int, most int) string {
	var l []string
	for range 1 + next(most) {
		l = append(l, strings.Repeat([]string{"a", "i", "a", "M"}[next(4)], 1+next(4)))
	}
	return strings.Join(l, []string{" ", " ", "  ", " - ", "-", "\x1f"}[next(6)])
}

// TestLeastModel: P14.2 and P14.3, many paragraphs that least demerits can make, with blanks that give much.
func TestLeastModel(t *testing.T) {
	next := chance(1414)
	plain, loose, shrunk := 0, 0, 0
	for range 3000 {
		p := best(block(words(next, 30)))
		p.Spans[0].C = api.Char{Size: 8 + next(9), Track: next(9)}
		p.P.Hyphen, p.P.Drop, p.Label = next(2), next(4), []string{"", "1."}[next(2)]
		p.P.First, p.P.In, p.P.Out = next(20)*next(2), next(20)*next(2), next(20)*next(2)
		s, rest := profileOf(next)
		compare(t, p, s, rest)
		l, _ := para.Lay(p, s, rest)
		switch {
		case l[0].Flag&api.Loose != 0:
			loose++
		case slices.ContainsFunc(l, func(x api.Line) bool { return x.Natural > x.W }):
			shrunk++
		default:
			plain++
		}
	}
	if plain < 100 || loose < 100 || shrunk < 100 {
		t.Error("too few of a kind: ", plain, loose, shrunk)
	}
}

// all goes through all rising lists of places of so many items that end at the end.
func all(n int) func(yield func([]int) bool) {
	return func(yield func([]int) bool) {
		for bits := range 1 << n {
			var l []int
			for i := range n {
				if bits>>i&1 == 1 {
					l = append(l, i)
				}
			}
			if !yield(append(l, n)) {
				return
			}
		}
	}
}

// linesOf tells the lines that breaks which may be the items' make, without what is odd about them.
func linesOf(p api.Para, items []api.Item, inner []api.Slot, within api.Slot, breaks []int) []api.Line {
	var out []api.Line
	a := slices.IndexFunc(items, func(it api.Item) bool { return it.Kind != api.Glue })
	from := 0
	for n, b := range breaks {
		in := slotOf(inner, within, n)
		w, _ := item.Width(items, a, b, in.X)
		l := api.Line{From: from, To: len(p.Text), X: in.X, W: in.W, Natural: w, Hyphen: b < len(items) && items[b].Hyphen}
		if a, _ = item.Start(items, b); a < len(items) {
			l.To = items[a].From
		}
		from = l.To
		out = append(out, l)
	}
	return out
}

// noneIsBetter: P14.3 and P5, of all breaks over the inner profile none has fewer demerits than those that made a paragraph's lines; if it is loose, none has any.
func noneIsBetter(t *testing.T, p api.Para, s []api.Slot, rest api.Slot) (loose bool) {
	t.Helper()
	items, _ := item.Items(p)
	inner, within, _ := para.Inner(p, s, rest)
	l, e := para.Lay(p, s, rest)
	if e != api.OK {
		t.Fatal(e)
	}
	loose = l[0].Flag&api.Loose != 0
	bare := slices.Clone(l)
	for i := range bare {
		bare[i].Flag = 0
	}
	fewest, taken := -1, -1
	for breaks := range all(len(items)) {
		d, e := least.Demerits(items, inner, within, breaks)
		if e != api.OK || d < 0 {
			continue
		}
		if fewest < 0 || d < fewest {
			fewest = d
		}
		if slices.Equal(linesOf(p, items, inner, within, breaks), bare) && (taken < 0 || d < taken) {
			taken = d
		}
	}
	if loose != (fewest < 0) || !loose && taken != fewest {
		t.Errorf("%q in %v, %v: %v, of %d demerits, not %d", p.Text, s, rest, l, taken, fewest)
	}
	return loose
}

// TestNoneIsBetter: P14.3 and P5, of short paragraphs, all breaks.
func TestNoneIsBetter(t *testing.T) {
	next := chance(141414)
	kinds := map[bool]int{}
	for range 400 {
		text := words(next, 5)
		p := best(block(text))
		if items, _ := item.Items(p); len(items) > 12 {
			continue
		}
		p.Spans[0].C = api.Char{Size: 8 + next(9), Track: next(9)}
		p.P.Drop, p.Label = next(3), []string{"", "1."}[next(2)]
		p.P.First, p.P.In, p.P.Out = next(9), next(9), next(9)
		if items, _ := item.Items(p); !slices.ContainsFunc(items, func(it api.Item) bool { return it.Kind != api.Glue }) {
			continue
		}
		var s []api.Slot
		for range next(4) {
			s = append(s, slot(next(9), 30+next(90)))
		}
		kinds[noneIsBetter(t, p, s, slot(next(9), 30+next(90)))]++
	}
	if kinds[false] < 50 || kinds[true] < 50 {
		t.Error("too few of a kind: ", kinds)
	}
	for w := range 90 {
		noneIsBetter(t, best(block("a a a a a a")), nil, slot(0, w))
		noneIsBetter(t, indented(best(block("aa b-c aa b\x1fc")), 4, 3, 2), slots(0, 40), slot(0, w))
	}
}

// TestCalm: P1, calls with numbers of all kinds end and do not panic, and answer nothing beside an error.
func TestCalm(t *testing.T) {
	next := chance(1)
	number := func() int { return []int{0, 1, 2, 8, 64, 4095, 4096, -1, far[next(len(far))]}[next(9)] }
	for range 20000 {
		p := block([]string{"", "a b c", "\ta\x1f b", "a\x02b", "a\nb"}[next(5)])
		if next(2) == 0 {
			p.P = api.Props{Size: number(), Pitch: number(), Align: number(), First: number(), In: number(), Out: number(), Orphan: 1, Widow: 1, Least: number(), Hyphen: number(), Drop: number()}
		}
		if next(4) == 0 {
			p.Spans = []api.Span{span(number(), number(), number(), number())}
		}
		if next(4) == 0 {
			p.Label, p.Marks = []string{"", "1.", "\n", strings.Repeat("a", 17)}[next(4)], []string{"1", "2"}[:next(3)]
		}
		var s []api.Slot
		for range []int{0, 1, 3, 257}[next(4)] {
			s = append(s, slot(number(), number()))
		}
		rest := slot(number(), number())
		why := metric.Check(p)
		if why == api.OK {
			why = first.Check(s, rest)
		}
		if why != api.OK {
			refused(t, p, s, rest, why)
		} else {
			compare(t, p, s, rest)
		}
		if why = metric.Check(p); why == api.OK {
			why = first.Check(nil, rest)
		}
		if why != api.OK {
			unlabelled(t, p, rest, why)
		} else {
			stands(t, p, rest, rest.X+p.P.In+p.P.First)
		}
	}
}
