package item_test

import (
	"slices"
	"strings"
	"testing"

	"quire/api"
	"quire/hyph"
	"quire/item"
	"quire/metric"
)

// chance tells numbers that look like chance, the same ones each time.
func chance(seed uint32) func(n int) int {
	return func(n int) int {
		seed = seed*1664525 + 1013904223
		return int(seed>>8) % n
	}
}

// texts goes through all texts of up to so many of some bytes.
func texts(bytes string, most int) func(yield func(string) bool) {
	return func(yield func(string) bool) {
		l := []string{""}
		for n := 0; ; n++ {
			var longer []string
			for _, s := range l {
				if !yield(s) {
					return
				}
				for i := range bytes {
					longer = append(longer, s+bytes[i:i+1])
				}
			}
			if n == most {
				return
			}
			l = longer
		}
	}
}

// parter is Plain's hyph, made once for all that the model asks.
var parter = hyph.Plain()

// letters tells what masses are, a byte for each: a letter is a, a sign - itself, a blank, a tab and a soft hyphen their bytes, all others a point.
func letters(p api.Para, l []api.Mass) string {
	var out []byte
	for _, m := range l {
		switch b := p.Text[m.From]; {
		case m.Kind == api.OfLetter:
			out = append(out, 'a')
		case b == '-' || b == ' ' || b == '\t' || b == '\x1f':
			out = append(out, b)
		default:
			out = append(out, '.')
		}
	}
	return string(out)
}

// places tells whether a word may be parted ahead of a mass, as the model has it: each mass is asked for its word by itself.
func places(p api.Para, l []api.Mass, i int) bool {
	like := func(k int) bool {
		return k >= 0 && k < len(l) && l[k].Kind == api.OfLetter && l[k].Size == l[i].Size
	}
	if p.P.Hyphen == 0 || !like(i) {
		return false
	}
	from, to := i, i
	for like(from - 1) {
		from--
	}
	for like(to) {
		to++
	}
	word := ""
	for _, m := range l[from:to] {
		word += p.Text[m.From : m.From+1]
	}
	at, e := parter.Points(word)
	return len(word) <= 64 && e == api.OK && slices.Contains(at, i-from)
}

// model tells a paragraph's items, as the model has it: run by run.
func model(p api.Para) []api.Item {
	l, _ := metric.Masses(p)
	if p.P.Drop > 1 && len(l) > 0 && l[0].Kind == api.OfLetter {
		l = l[1:]
	}
	what := letters(p, l)
	var out []api.Item
	for i := 0; i < len(l); {
		m := l[i]
		hyphen, _ := metric.Width("-", m.Size)
		switch what[i] {
		case ' ':
			out = append(out, api.Item{Kind: api.Glue, From: m.From, To: m.To, W: m.W, Stretch: m.W / 2, Shrink: m.W / 3})
			i++
			continue
		case '\t':
			out = append(out, api.Item{Kind: api.Leap, From: m.From, To: m.To})
			i++
			continue
		case '\x1f':
			out = append(out, api.Item{Kind: api.Penalty, From: m.From, To: m.To, W: hyphen, Cost: 50, Hyphen: true})
			i++
			continue
		}
		end := len(what)
		if n := strings.IndexAny(what[i:], " \t\x1f"); n >= 0 {
			end = i + n
		}
		run, from := what[i:end], i
		for k := range run {
			at := l[i+k]
			hyphen, _ := metric.Width("-", at.Size)
			var parts []api.Item
			if k > 0 && places(p, l, i+k) {
				parts = append(parts, api.Item{Kind: api.Penalty, From: at.From, To: at.From, W: hyphen, Cost: 100, Hyphen: true})
			} else if k > 1 && run[k-1] == '-' && run[k] != '-' {
				parts = append(parts, api.Item{Kind: api.Penalty, From: at.From, To: at.From, Cost: 50})
			}
			if len(parts) > 0 {
				out = append(append(out, boxOf(l[from:i+k])), parts...)
				from = i + k
			}
		}
		out = append(out, boxOf(l[from:end]))
		i = end
	}
	return out
}

// boxOf tells the Box of masses, as the model has it.
func boxOf(l []api.Mass) api.Item {
	it := api.Item{Kind: api.Box, From: l[0].From, To: l[len(l)-1].To, W: -l[0].Kern}
	for _, m := range l {
		it.W += m.W + m.Kern
	}
	return it
}

// kindsOf tells the kinds of items, a byte for each.
func kindsOf(l []api.Item) string {
	var out []byte
	for _, it := range l {
		out = append(out, "?bgpl"[it.Kind])
	}
	return string(out)
}

// legal tells whether a line may end ahead of an item, as the model has it: by what stands on both sides.
func legal(l []api.Item, i int) bool {
	what := kindsOf(l)
	ahead, behind := what[:i], what[i:]
	if behind == "" || behind[0] == 'p' {
		return true
	}
	return behind[0] == 'g' && ahead != "" && strings.IndexByte("blp", ahead[len(ahead)-1]) >= 0
}

// start tells where the next line begins, as the model has it.
func start(l []api.Item, i int) int {
	behind := strings.TrimPrefix(kindsOf(l)[i:], "p")
	return len(l) - len(strings.TrimLeft(behind, "g"))
}

// width tells the natural width of a line, as the model has it, from its place on.
func width(l []api.Item, a, b, x int) int {
	at := x
	for i := range strings.TrimRight(kindsOf(l)[a:b], "g") {
		switch l[a+i].Kind {
		case api.Box, api.Glue:
			at += l[a+i].W
		case api.Leap:
			for at++; at%48 != 0; at++ {
			}
		}
	}
	if b < len(l) && l[b].Kind == api.Penalty {
		at += l[b].W
	}
	return at - x
}

// give tells a line's stretch and shrink, as the model has it.
func give(l []api.Item, a, b int) (stretch, shrink int) {
	for i := range strings.TrimRight(kindsOf(l)[a:b], "g") {
		if l[a+i].Kind == api.Glue {
			stretch, shrink = stretch+l[a+i].Stretch, shrink+l[a+i].Shrink
		}
	}
	return stretch, shrink
}

// compare holds a paragraph's items against the model, and against what follows.
func compare(t *testing.T, p api.Para) []api.Item {
	t.Helper()
	l, e := item.Items(p)
	if must := model(p); e != api.OK || !slices.Equal(l, must) {
		t.Errorf("items of %q, %v, %v: %v, %v, not %v", p.Text, p.Spans, p.P, l, e, must)
	}
	if e := item.Check(l); e != api.OK {
		t.Errorf("check of %q's items: %v", p.Text, e)
	}
	at := 0
	if p.P.Drop > 1 && len(p.Text) > 0 {
		if m, _ := metric.Masses(p); m[0].Kind == api.OfLetter {
			at = m[0].To
		}
	}
	for _, it := range l {
		if it.From != at {
			t.Errorf("items of %q: %v, where %d is", p.Text, it, at)
		}
		at = it.To
	}
	if at != len(p.Text) {
		t.Errorf("items of %q end at %d", p.Text, at)
	}
	return l
}

// compareLines holds all that is told of lines of items against the model.
func compareLines(t *testing.T, l []api.Item, places ...int) {
	t.Helper()
	for i := range len(l) + 1 {
		if ok := item.Legal(l, i); ok != legal(l, i) {
			t.Errorf("legal of %s, %d: %v", kindsOf(l), i, ok)
		}
		if n, e := item.Start(l, i); n != start(l, i) || e != api.OK {
			t.Errorf("start of %s, %d: %d, %v, not %d", kindsOf(l), i, n, e, start(l, i))
		}
		for b := i; b <= len(l); b++ {
			for _, x := range places {
				if n, e := item.Width(l, i, b, x); n != width(l, i, b, x) || e != api.OK {
					t.Errorf("width of %v, %d, %d, %d: %d, %v, not %d", l, i, b, x, n, e, width(l, i, b, x))
				}
			}
			y, z := give(l, i, b)
			if n, m, e := item.Give(l, i, b); n != y || m != z || e != api.OK {
				t.Errorf("give of %v, %d, %d: %d, %d, %v, not %d, %d", l, i, b, n, m, e, y, z)
			}
		}
	}
	if ok := item.Leaps(l); ok != strings.Contains(kindsOf(l), "l") {
		t.Errorf("leaps of %s: %v", kindsOf(l), ok)
	}
}

// paragraph makes a paragraph that may be of so many bytes, cut into spans of few or many looks.
func paragraph(next func(n int) int, n int) api.Para {
	from := []string{"table- ", "latenmoprcdsg", "AVToaLY.r,-", "a-b \t\x1f\x01\x02^~", "1-a--b ", "hyphenation^`- "}[next(6)]
	text := make([]byte, n)
	for i := range text {
		text[i] = from[next(len(from))]
	}
	p := api.Para{Text: string(text), P: api.Props{Size: 1 + next(64), Pitch: 1, Orphan: 1, Widow: 1, Hyphen: min(next(3), 1), Drop: next(5)}}
	for range strings.Count(p.Text, "\x02") {
		p.Marks = append(p.Marks, []string{"1", "12", "WWWWWWWW"}[next(3)])
	}
	sizes := []int{0, p.P.Size, 1 + next(64)}[:1+next(3)]
	for n > 0 {
		k := 1 + next(min(n, 9))
		p.Spans = append(p.Spans, api.Span{Len: k, C: api.Char{Size: sizes[next(len(sizes))], Track: next(4) * next(6), Kern: min(next(4), 1)}})
		n -= k
	}
	return p
}

// some makes items that may be, by chance: Glues with other stretches than Items makes, Penalties with bytes and without.
func some(next func(n int) int, n int) []api.Item {
	var l []api.Item
	at := 0
	for range n {
		it := api.Item{Kind: 1 + next(4), From: at, To: at + next(3)}
		if next(20) == 0 {
			it.From, it.To = next(10), 10+next(10)
		}
		at = it.To
		if it.Kind != api.Leap {
			it.W = next(60)
		}
		if it.Kind == api.Glue {
			it.Stretch, it.Shrink = next(40), next(40)
		}
		if it.Kind == api.Penalty {
			it.Cost, it.Hyphen = next(200), next(2) == 0
		}
		l = append(l, it)
	}
	return l
}

// TestModelItself: the model does as the chapter's examples say.
func TestModelItself(t *testing.T) {
	if l := model(plain("a b")); !slices.Equal(l, []api.Item{box(0, 1, 5), glue(1, 3), box(2, 3, 5)}) {
		t.Error(l)
	}
	if l := model(plain("a-b")); !slices.Equal(l, []api.Item{box(0, 2, 8), behind(2), box(2, 3, 5)}) {
		t.Error(l)
	}
	if l := model(hyphened("table")); !slices.Equal(l, []api.Item{box(0, 2, 8), within(2, 3), box(2, 5, 12)}) {
		t.Error(l)
	}
	l := model(plain("a b"))
	if legal(l, 0) || !legal(l, 1) || legal(l, 2) || !legal(l, 3) || start(l, 1) != 2 || width(l, 0, 1, 0) != 5 || width(l, 0, 3, 0) != 13 || width(l, 0, 2, 0) != 5 {
		t.Error(l)
	}
	if l := model(plain("a\tb")); width(l, 0, 3, 0) != 53 || width(l, 0, 3, 40) != 13 {
		t.Error(l)
	}
}

// TestAllShortTexts: P10.1 and P10.4, masses of every kind, first, last and next to one another: all texts of up to five bytes of each kind.
func TestAllShortTexts(t *testing.T) {
	for text := range texts("a-1 \t\x1f^\x01\x02", 5) {
		compare(t, plain(text))
	}
	for text := range texts("A-~ \x1f", 6) {
		p := hyphened(text)
		p.P.Drop = 2
		compare(t, p)
	}
}

// TestAllShortWords: P10.1, all words of up to eight letters of few, which Plain parts often; parted by signs, accents and a soft hyphen too.
func TestAllShortWords(t *testing.T) {
	for text := range texts("tla", 8) {
		compare(t, hyphened(text))
	}
	for text := range texts("ta-^\x1f", 6) {
		compare(t, hyphened("xx"+text+"txx"))
	}
}

// TestModel: P10.1 and P10.4, many paragraphs, short and long, and all that is told of the lines of the short ones.
func TestModel(t *testing.T) {
	next := chance(10)
	for range 6000 {
		compare(t, paragraph(next, next(60)))
	}
	for range 300 {
		compareLines(t, compare(t, paragraph(next, next(20))), 0, 1, next(4096), 4095)
	}
	for range 30 {
		compare(t, paragraph(next, 300+next(300)))
	}
	for _, n := range []int{4095, 4096} {
		compare(t, paragraph(next, n))
	}
}

// TestAllShortLists: P10.2 and P10.3, all lists of up to six items of each kind, those among them that Items never answers.
func TestAllShortLists(t *testing.T) {
	for text := range texts("bgpl", 6) {
		l := []api.Item{}
		for i := range len(text) {
			n := 1 << i
			l = append(l, map[byte]api.Item{
				'b': {Kind: api.Box, W: 100 * n},
				'g': {Kind: api.Glue, W: 3 * n, Stretch: n, Shrink: 2 * n},
				'p': {Kind: api.Penalty, W: 7 * n, Cost: n},
				'l': {Kind: api.Leap},
			}[text[i]])
		}
		compareLines(t, l, 0, 47)
	}
}

// TestListsByChance: P10.2 and P10.3, many lists, those among them that Items never answers.
func TestListsByChance(t *testing.T) {
	next := chance(100)
	for range 2000 {
		compareLines(t, some(next, next(14)), 0, next(100), next(4096), 4095)
	}
	for range 5 {
		compareLines(t, some(next, 120), next(4096))
	}
}
