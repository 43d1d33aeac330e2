package set_test

import (
	"slices"
	"strings"
	"testing"

	"quire/api"
	"quire/cluster"
	"quire/first"
	"quire/item"
	"quire/metric"
	"quire/set"
)

// chance tells numbers that look like chance, the same ones each time.
func chance(seed uint32) func(n int) int {
	return func(n int) int {
		seed = seed*1664525 + 1013904223
		return int(seed>>8) % n
	}
}

// texts goes through all texts of up to so many of some bytes.
func texts(bytes string, most int) func(yield func(string) bool) {
	return func(yield func(string) bool) {
		l := []string{""}
		for n := 0; ; n++ {
			var longer []string
			for _, s := range l {
				if !yield(s) {
					return
				}
				for i := range bytes {
					longer = append(longer, s+bytes[i:i+1])
				}
			}
			if n == most {
				return
			}
			l = longer
		}
	}
}

// model is a line as the chapter says it, word by word: each place is summed up anew from the line's beginning on.
type model struct {
	p       api.Para
	l       api.Line
	last    bool
	capital bool
	all     []api.Mass // the line's masses, a drop capital not among them
	kinds   string     // a letter for each of these: b of a blank, s of a soft hyphen, t of a tab, x of others
	parted  []int      // where Penalties of the paragraph's items stand
}

// modelOf makes the model of a line that may be.
func modelOf(p api.Para, l api.Line, last bool) model {
	m := model{p: p, l: l, last: last}
	masses, _ := metric.Masses(p)
	items, _ := item.Items(p)
	for _, it := range items {
		if it.Kind == api.Penalty {
			m.parted = append(m.parted, it.From)
		}
	}
	for i, x := range masses {
		if x.From < l.From || x.To > l.To {
			continue
		}
		if i == 0 && p.P.Drop > 1 && x.Kind == api.OfLetter {
			m.capital = true
			continue
		}
		m.all = append(m.all, x)
		m.kinds += string("?xxbtsxx?"[x.Kind])
	}
	return m
}

// atEnd tells whether a mass is one of the blanks at the end.
func (m model) atEnd(i int) bool { return strings.Trim(m.kinds[i:], "bs") == "" }

// isAhead tells whether a mass is one of the blanks ahead.
func (m model) isAhead(i int) bool {
	return m.l.From == 0 && strings.Trim(m.kinds[:i+1], "b") == "" && strings.Trim(m.kinds, "b") != ""
}

func (m model) leftOut(i int) bool { return m.atEnd(i) || m.isAhead(i) }

// kern tells by how much a mass stands nearer to the one ahead.
func (m model) kern(i int) int {
	if i == 0 || slices.Contains(m.parted, m.all[i].From) { // the first one is behind a drop capital, or behind nothing
		return 0
	}
	return m.all[i].Kern
}

// widthBy tells how wide a mass is by nature.
func (m model) widthBy(i int, places []int) int {
	switch {
	case m.leftOut(i):
		return 0
	case m.kinds[i] == 't':
		w := 1
		for ; (places[i]+w)%48 != 0; w++ {
		}
		return w
	}
	return m.all[i].W
}

// natural tells where each mass stands by nature and how wide it is, and, last, where they end.
func (m model) natural() (places, widths []int) {
	at := m.l.X
	for i := range m.all {
		at += m.kern(i)
		places = append(places, at)
		widths = append(widths, m.widthBy(i, places))
		at += widths[i]
	}
	return append(places, at), widths
}

// hyphenWidth tells how wide the hyphen is.
func (m model) hyphenWidth() int {
	if !m.l.Hyphen {
		return 0
	}
	size := m.p.P.Size
	for i, x := range m.all {
		if !m.leftOut(i) {
			size = x.Size
		}
	}
	for i, x := range m.all {
		if m.atEnd(i) && m.kinds[i] == 's' {
			size = x.Size
		}
	}
	return metric.Em('-') * size / 8
}

// blanks tells which of the masses are blanks that are not left out.
func (m model) blanks() []int {
	var out []int
	for i := range m.all {
		if m.kinds[i] == 'b' && !m.leftOut(i) {
			out = append(out, i)
		}
	}
	return out
}

// thirds tells what the thirds of the first i blanks are, together.
func (m model) thirds(i int) int {
	sum := 0
	for _, k := range m.blanks()[:i] {
		sum += m.all[k].W / 3
	}
	return sum
}

// isSpread tells whether the line is spread with an extra room.
func (m model) isSpread(room int) bool {
	if m.p.P.Align != api.Full || m.last || strings.Contains(m.kinds, "t") || len(m.blanks()) == 0 {
		return false
	}
	return room > 0 || room < 0 && -room <= m.thirds(len(m.blanks()))
}

// takes tells what the first i blanks of a line that is spread take of the extra room, together.
func (m model) takes(i, room int) int {
	k := len(m.blanks())
	if room > 0 {
		return room * i / k
	}
	return -(-room * m.thirds(i) / m.thirds(k))
}

// glyphs tells the line's glyphs, and whether it is spread.
func (m model) glyphs() ([]api.Glyph, bool) {
	places, widths := m.natural()
	hyphen := m.hyphenWidth()
	end := places[len(m.all)] + hyphen
	room := m.l.W - (end - m.l.X)
	move := 0
	if room > 0 {
		move = []int{0, 0, room, room / 2}[m.p.P.Align]
	}
	spread := m.isSpread(room)
	more := func(i int) int { // how much the blanks ahead of mass i take
		n := 0
		for _, k := range m.blanks() {
			if k < i {
				n++
			}
		}
		if !spread {
			return 0
		}
		return m.takes(n, room)
	}
	var out []api.Glyph
	if m.capital {
		first, _ := cluster.Next(m.p.Text, 0)
		w := metric.Em(m.p.Text[0]) * min(64, m.p.P.Size*m.p.P.Drop) / 8
		out = append(out, api.Glyph{From: 0, To: first, X: m.l.X - (w + 4), W: w})
	}
	for i, x := range m.all {
		out = append(out, api.Glyph{From: x.From, To: x.To, X: places[i] + move + more(i), W: widths[i] + more(i+1) - more(i)})
	}
	if m.l.Hyphen {
		out = append(out, api.Glyph{From: m.l.To, To: m.l.To, X: places[len(m.all)] + move + more(len(m.all)), W: hyphen})
	}
	return out, spread
}

// compare holds a line against the model, and against what follows.
func compare(t *testing.T, p api.Para, l api.Line, last bool) {
	t.Helper()
	m := modelOf(p, l, last)
	must, spread := m.glyphs()
	follows(t, m, stand(t, p, l, last, must...), spread)
}

// follows: P13.3, what is said of all lines.
func follows(t *testing.T, m model, g []api.Glyph, spread bool) {
	t.Helper()
	if must := bytesOf(m.p, m.l); len(g) != len(must) {
		t.Fatalf("%q, %v: %d glyphs, not %d", short(m.p.Text), m.l, len(g), len(must))
	} else {
		for i := range g {
			if g[i].From != must[i][0] || g[i].To != must[i][1] {
				t.Errorf("%q, %v: glyph %v, not %v", short(m.p.Text), m.l, g[i], must[i])
			}
		}
	}
	all := g
	if m.capital {
		if d, e := set.Drop(m.p); e != api.OK || g[0].X != m.l.X-d || g[0].W != d-4 {
			t.Errorf("%q, %v: capital %v, %d, %v", short(m.p.Text), m.l, g[0], d, e)
		}
		all = g[1:]
	}
	for i := range all {
		kern := 0
		if i < len(m.all) {
			kern = m.kern(i)
		}
		if all[i].W < 0 || i > 0 && all[i].X != all[i-1].X+all[i-1].W+kern || i > 0 && all[i].X < all[i-1].X {
			t.Errorf("%q, %v: glyph %v behind %v", short(m.p.Text), m.l, all[i], all[max(i-1, 0)])
		}
	}
	if len(all) == 0 {
		return
	}
	end := all[len(all)-1].X + all[len(all)-1].W
	moved := m.p.P.Align == api.Right && all[0].X > m.l.X
	if (spread || moved) && end != m.l.X+m.l.W {
		t.Errorf("%q, Align %d, %v: ends at %d", short(m.p.Text), m.p.P.Align, m.l, end)
	}
	if !moved && m.p.P.Align != api.Centre && all[0].X != m.l.X {
		t.Errorf("%q, Align %d, %v: begins at %d", short(m.p.Text), m.p.P.Align, m.l, all[0].X)
	}
}

// compareAll holds a line against the model with each alignment, as the last line and as another, with a hyphen and without.
func compareAll(t *testing.T, p api.Para, l api.Line) {
	t.Helper()
	for _, p.P.Align = range aligns {
		for _, last := range []bool{false, true} {
			compare(t, p, l, last)
			compare(t, p, ended(l), last)
		}
	}
}

// paragraph makes a paragraph that may be of so many bytes, cut into spans of few or many looks.
func paragraph(next func(n int) int, n int) api.Para {
	from := []string{"table- ", "ab  c ", "BATeLTano.r,-", "a-b \t\x1f\x01\x02^~", "vovo- \x1f", "a \x1f", "hyphenation^`- ", "AVAVov vr.-"}[next(8)]
	text := make([]byte, n)
	for i := range text {
		text[i] = from[next(len(from))]
	}
	p := api.Para{Text: string(text), P: api.Props{Size: 1 + next(64), Pitch: 1, Orphan: 1, Widow: 1, Align: next(4), Hyphen: min(next(3), 1), Drop: next(5)}}
	for range strings.Count(p.Text, "\x02") {
		p.Marks = append(p.Marks, []string{"1", "12", "WWWWWWWW"}[next(3)])
	}
	sizes := []int{0, p.P.Size, 1 + next(64)}[:1+next(3)]
	for n > 0 {
		k := 1 + next(min(n, 9))
		p.Spans = append(p.Spans, api.Span{Len: k, C: api.Char{Size: sizes[next(len(sizes))], Track: next(4) * next(6), Kern: min(next(4), 1)}})
		n -= k
	}
	return p
}

// boundaries tells a text's boundaries.
func boundaries(text string) []int {
	out := []int{0}
	l, _ := cluster.Split(text)
	for _, c := range l {
		out = append(out, c.To)
	}
	return out
}

// TestModelItself: the model does as the chapter's examples say.
func TestModelItself(t *testing.T) {
	for _, x := range []struct {
		text   string
		align  int
		w      int
		last   bool
		hyphen bool
		must   []int
	}{
		{"a b c", api.Left, 30, false, false, []int{0, 5, 5, 3, 8, 5, 13, 3, 16, 5}},
		{"a b c", api.Right, 30, false, false, []int{9, 5, 14, 3, 17, 5, 22, 3, 25, 5}},
		{"a b c", api.Centre, 30, false, false, []int{4, 5, 9, 3, 12, 5, 17, 3, 20, 5}},
		{"a b c", api.Full, 24, false, false, []int{0, 5, 5, 4, 9, 5, 14, 5, 19, 5}},
		{"a b c", api.Full, 20, false, false, []int{0, 5, 5, 3, 8, 5, 13, 2, 15, 5}},
		{"a b c", api.Full, 24, true, false, []int{0, 5, 5, 3, 8, 5, 13, 3, 16, 5}},
		{"a b ", api.Left, 30, false, true, []int{0, 5, 5, 3, 8, 5, 13, 0, 13, 3}},
		{" ab", api.Right, 30, false, false, []int{20, 0, 20, 5, 25, 5}},
	} {
		l := line(0, len(x.text), 0, x.w)
		l.Hyphen = x.hyphen
		g, _ := modelOf(para(x.text, x.align), l, x.last).glyphs()
		var got []int
		for _, y := range g {
			got = append(got, y.X, y.W)
		}
		if !slices.Equal(got, x.must) {
			t.Errorf("%q: %v, not %v", x.text, got, x.must)
		}
	}
}

// TestAllShortTexts: P13.2 and P13.3, masses of every kind, first, last and next to one another: all texts of up to four bytes of each kind.
func TestAllShortTexts(t *testing.T) {
	for text := range texts("a- \t\x1f^\x01\x02", 4) {
		compareAll(t, para(text, api.Left), line(0, len(text), 5, 61))
	}
	for text := range texts("a \x1f", 6) {
		compareAll(t, para(text, api.Left), line(0, len(text), 5, 28))
		compareAll(t, dropped(text, api.Left, 3), line(0, len(text), 5, 16))
	}
}

// TestAllParts: P13.2 and P13.3, all lines of short texts, those too that no paragraph is broken into, in slots of all widths.
func TestAllParts(t *testing.T) {
	for _, text := range []string{"a  b \x1f c-d", "  AV A\x1f ", "\ta b\tc ", "AVo vo", "a^ b~~ \x01"} {
		for _, p := range []api.Para{para(text, api.Left), kerned(para(text, api.Left), 16), hyphened(kerned(dropped(text, api.Left, 2), 24))} {
			for _, from := range boundaries(text) {
				for _, to := range boundaries(text) {
					if from > to {
						continue
					}
					for w := 0; w < 130; w += 7 {
						for _, p.P.Align = range aligns {
							compare(t, p, line(from, to, 20, w), w%2 == 0 && w%5 == 0)
						}
						compare(t, p, ended(line(from, to, 20, w)), false)
					}
				}
			}
		}
	}
}

// TestModel: P13.2 and P13.3, many paragraphs and lines of them, short and long.
func TestModel(t *testing.T) {
	next := chance(13)
	for range 1000 {
		p := paragraph(next, next(40))
		l := boundaries(p.Text)
		a, b := l[next(len(l))], l[next(len(l))]
		if next(2) == 0 {
			a, b = 0, max(a, b)
		}
		x := line(min(a, b), max(a, b), []int{0, next(200), next(4096), 4095}[next(4)], []int{0, next(300), next(2000), 4095}[next(4)])
		compareAll(t, p, x)
		// Slots about as wide as the line is by nature.
		p.P.Align = api.Left
		end, _ := set.End(p, x, false)
		p.P.Align = api.Full
		for _, by := range []int{-9, -3, -2, -1, 0, 1, 2, 3, 9, 1 - next(20)} {
			if x.W = end - x.X + by; x.W >= 0 && x.W <= 4095 {
				compare(t, p, x, false)
			}
		}
	}
	for range 20 {
		p := paragraph(next, 300+next(300))
		compareAll(t, p, line(0, len(p.Text), next(100), next(4096)))
	}
}

// broken tells a paragraph's lines as they fit in a slot.
func broken(p api.Para, s api.Slot) []api.Line {
	items, _ := item.Items(p)
	l, _ := first.Break(items, nil, s)
	var out []api.Line
	from := 0
	for i, x := range l {
		to := len(p.Text)
		if i+1 < len(l) {
			to = items[l[i+1].A].From
		}
		out = append(out, api.Line{From: from, To: to, X: s.X, W: s.W, Natural: x.Natural, Hyphen: x.Hyphen})
		from = to
	}
	return out
}

// TestBrokenLines: P13.3 and P4, the lines of paragraphs that are broken: their glyphs have each cluster once; each line is as wide by nature as its items say, and if that fits, it ends in its slot, however it is aligned.
func TestBrokenLines(t *testing.T) {
	next := chance(1313)
	for range 400 {
		p := paragraph(next, next(150))
		if strings.Contains(p.Text, " \x1f") { // such blanks and soft hyphens at a line's end are all left out, where items leave out the last ones alone
			continue
		}
		s := api.Slot{X: 300 + next(100), W: next(600)}
		lines := broken(p, s)
		var seen [][2]int
		for n, l := range lines {
			last := n == len(lines)-1
			p.P.Align = api.Left
			end, e := set.End(p, l, last)
			if g, _ := set.Place(p, l, last); len(g) == 1 && l.From == 0 && g[0].X < s.X {
				end = s.X // a drop capital alone
			}
			if e != api.OK || end != l.X+l.Natural {
				t.Errorf("%q, %v: %v ends at %d, %v", p.Text, p.Spans, l, end, e)
			}
			for _, p.P.Align = range aligns {
				compare(t, p, l, last)
				if end, _ := set.End(p, l, last); l.Natural <= l.W && end > l.X+l.W {
					t.Errorf("%q, Align %d: %v ends at %d", p.Text, p.P.Align, l, end)
				}
			}
			g, _ := set.Place(p, l, last)
			for _, x := range g {
				if x.From < x.To {
					seen = append(seen, [2]int{x.From, x.To})
				}
			}
		}
		if must := bytesOf(p, whole(p, 0)); !slices.Equal(seen, must) {
			t.Errorf("%q: %v, not %v", p.Text, seen, must)
		}
	}
}
