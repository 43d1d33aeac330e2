package first_test

import (
	"slices"
	"strings"
	"testing"

	"quire/api"
	"quire/first"
	"quire/item"
)

// chance tells numbers that look like chance, the same ones each time.
func chance(seed uint32) func(n int) int {
	return func(n int) int {
		seed = seed*1664525 + 1013904223
		return int(seed>>8) % n
	}
}

// texts goes through all texts of up to so many of some bytes.
func texts(bytes string, most int) func(yield func(string) bool) {
	return func(yield func(string) bool) {
		l := []string{""}
		for n := 0; ; n++ {
			var longer []string
			for _, s := range l {
				if !yield(s) {
					return
				}
				for i := range bytes {
					longer = append(longer, s+bytes[i:i+1])
				}
			}
			if n == most {
				return
			}
			l = longer
		}
	}
}

// kindsOf tells the kinds of items, a byte for each.
func kindsOf(l []api.Item) string {
	var out []byte
	for _, it := range l {
		out = append(out, "?bgpl"[it.Kind])
	}
	return string(out)
}

// legalBreaks tells all legal breaks above a place, as the model has it.
func legalBreaks(l []api.Item, a int) []int {
	what := "g" + kindsOf(l) + "p" // as if a Penalty stood at the end, and a Glue ahead of all
	var out []int
	for i := a + 1; i <= len(l); i++ {
		if two := what[i : i+2]; two[1] == 'p' || two[1] == 'g' && two[0] != 'g' {
			out = append(out, i)
		}
	}
	return out
}

// natural tells how wide a line is by nature, as the model has it: from its place on, step by step.
func natural(l []api.Item, a, b, x int) int {
	at := x
	for i := range strings.TrimRight(kindsOf(l)[a:b], "g") {
		switch l[a+i].Kind {
		case api.Box, api.Glue:
			at += l[a+i].W
		case api.Leap:
			for at++; at%48 != 0; at++ {
			}
		}
	}
	if b < len(l) && l[b].Kind == api.Penalty {
		at += l[b].W
	}
	return at - x
}

// model tells the lines of items, as the model has it: of each line all its breaks are measured, and those are left out that do not fit or have one ahead that does not.
func model(l []api.Item, s []api.Slot, rest api.Slot) []api.Piece {
	what := kindsOf(l)
	a := len(l) - len(strings.TrimLeft(what, "g"))
	if a == len(l) {
		return []api.Piece{{A: a, B: a}}
	}
	var out []api.Piece
	for a < len(l) {
		in := append(slices.Clone(s), slices.Repeat([]api.Slot{rest}, len(l)+1)...)[len(out)]
		all := legalBreaks(l, a)
		fits := func(b int) bool { return natural(l, a, b, in.X) <= in.W }
		b, isWide := all[0], true
		for k := range all {
			if !slices.ContainsFunc(all[:k+1], func(b int) bool { return !fits(b) }) {
				b, isWide = all[k], false
			}
		}
		out = append(out, api.Piece{A: a, B: b, Wide: isWide, Hyphen: b < len(l) && l[b].Kind == api.Penalty && l[b].Hyphen, Natural: natural(l, a, b, in.X)})
		behind := strings.TrimPrefix(what[b:], "p")
		a = len(l) - len(strings.TrimLeft(behind, "g"))
	}
	return out
}

// compare holds the lines of items against the model, and against what follows.
func compare(t *testing.T, l []api.Item, s []api.Slot, rest api.Slot) {
	t.Helper()
	p, e := first.Break(l, s, rest)
	if must := model(l, s, rest); e != api.OK || !slices.Equal(p, must) {
		t.Errorf("break of %s %v in %v, %v: %v, %v, not %v", kindsOf(l), few(l), few(s), rest, p, e, must)
	}
	follows(t, l, s, rest, p)
}

// follows: P11.3, what is said of all lines.
func follows(t *testing.T, l []api.Item, s []api.Slot, rest api.Slot, p []api.Piece) {
	t.Helper()
	stand(t, l, p)
	for n, x := range p {
		in := first.Slot(s, rest, n)
		w, e := item.Width(l, x.A, x.B, in.X)
		if e != api.OK || w != x.Natural || x.Wide != (w > in.W) {
			t.Errorf("%v: line %v is %d wide, its slot %v, %v", few(l), x, w, in, e)
		}
		if x.Hyphen != (x.B < len(l) && l[x.B].Hyphen) {
			t.Errorf("%v: line %v's hyphen", few(l), x)
		}
		if x.A < len(l) && !item.Legal(l, x.B) {
			t.Errorf("%v: line %v ends at no legal break", few(l), x)
		}
		if x.Wide && legalBreaks(l, x.A)[0] != x.B {
			t.Errorf("%v: line %v is Wide, with a break within", few(l), x)
		}
		if n == len(p)-1 || x.Wide { // one that is Wide ends at its first break, also where it would be narrower at the next one
			continue
		}
		behind := legalBreaks(l, x.B)[0]
		if w, _ := item.Width(l, x.A, behind, in.X); w <= in.W {
			t.Errorf("%v: line %v could take in what stands up to %d", few(l), x, behind)
		}
	}
}

// stand: P11.3, each item that is no Glue, but a Penalty at which a line ends, stands in just one line, in order.
func stand(t *testing.T, l []api.Item, p []api.Piece) {
	t.Helper()
	if len(p) == 0 {
		t.Errorf("%v: no lines", few(l))
	}
	times := make([]int, len(l))
	end := 0
	for n, x := range p {
		if x.A < end || x.B < x.A || x.B > len(l) || x.A == x.B && (n > 0 || x.A < len(l)) {
			t.Fatalf("%v: line %v behind %d", few(l), x, end)
		}
		end = x.B
		for i := x.A; i < x.B; i++ {
			times[i]++
		}
		if x.B < len(l) && l[x.B].Kind == api.Penalty {
			times[x.B]++
			end++
		}
	}
	for i, n := range times {
		if n > 1 || n == 0 && l[i].Kind != api.Glue {
			t.Errorf("%v: item %d stands in %d lines of %v", few(l), i, n, few(p))
		}
	}
}

// profile makes a profile by chance.
func profile(next func(n int) int, widest int) ([]api.Slot, api.Slot) {
	var l []api.Slot
	for range next(6) {
		l = append(l, api.Slot{X: next(100), W: next(widest)})
	}
	return l, api.Slot{X: []int{0, next(100), next(4096), 4095}[next(4)], W: next(widest)}
}

// some makes items that may be, by chance.
func some(next func(n int) int, n int) []api.Item {
	kinds := []string{"bgpl", "bgbgbp", "bg", "pg", "bbgpgpgl"}[next(5)]
	widest := 1 + next(60)
	var l []api.Item
	for range n {
		switch kinds[next(len(kinds))] {
		case 'b':
			l = append(l, box(next(widest)))
		case 'g':
			l = append(l, glue(next(widest)))
		case 'p':
			l = append(l, api.Item{Kind: api.Penalty, W: next(widest), Hyphen: next(2) == 0})
		case 'l':
			l = append(l, leap())
		}
	}
	return l
}

// paragraph makes the items of a paragraph of so many bytes.
func paragraph(next func(n int) int, n int) []api.Item {
	from := []string{"table- ", "latenmoprcdsg  ", "AVToaLY.r,- ", "a-b \t\x1f\x01\x02^~", "1-a--b ", "hyphenation^`- "}[next(6)]
	text := make([]byte, n)
	for i := range text {
		text[i] = from[next(len(from))]
	}
	p := api.Para{Text: string(text), P: api.Props{Size: 1 + next(20), Pitch: 1, Orphan: 1, Widow: 1, Hyphen: next(2), Drop: next(5)}}
	p.Marks = slices.Repeat([]string{"12"}, strings.Count(p.Text, "\x02"))
	for n > 0 {
		k := 1 + next(min(n, 40))
		p.Spans = append(p.Spans, api.Span{Len: k, C: api.Char{Size: next(20), Track: next(4), Kern: next(2)}})
		n -= k
	}
	l, _ := item.Items(p)
	return l
}

// TestModelItself: the model does as the chapter's examples say.
func TestModelItself(t *testing.T) {
	abc := list(box(5), glue(3), box(5), glue(3), box(5))
	for _, x := range []struct {
		s    []api.Slot
		rest int
		must []api.Piece
	}{
		{nil, 13, []api.Piece{line(0, 3, 13), line(4, 5, 5)}},
		{nil, 12, []api.Piece{line(0, 1, 5), line(2, 3, 5), line(4, 5, 5)}},
		{slots(5), 20, []api.Piece{line(0, 1, 5), line(2, 5, 13)}},
		{nil, 2, []api.Piece{wide(0, 1, 5), wide(2, 3, 5), wide(4, 5, 5)}},
	} {
		if p := model(abc, x.s, slot(x.rest)); !slices.Equal(p, x.must) {
			t.Errorf("%v, %d: %v", x.s, x.rest, p)
		}
	}
	if p := model(nil, nil, slot(2)); !slices.Equal(p, []api.Piece{line(0, 0, 0)}) {
		t.Error(p)
	}
}

// TestAllShortLists: P11.2 and P11.3, all lists of up to six items of each kind, in slots of many widths.
func TestAllShortLists(t *testing.T) {
	for text := range texts("bgphl", 6) {
		l := []api.Item{}
		for i := range len(text) {
			l = append(l, map[byte]api.Item{'b': box(5), 'g': glue(3), 'p': penalty(0), 'h': hyphen(4), 'l': leap()}[text[i]])
		}
		compare(t, l, nil, slot(0))
		compare(t, l, nil, slot(8))
		compare(t, l, slots(13, 4), api.Slot{X: 40, W: 9})
		compare(t, l, []api.Slot{{X: 43, W: 54}}, slot(51))
	}
}

// TestAllWidths: P11.2, lists in slots of each width up to what they need.
func TestAllWidths(t *testing.T) {
	for text := range texts("bgh", 7) {
		l := []api.Item{}
		for i := range len(text) {
			l = append(l, map[byte]api.Item{'b': box(2), 'g': glue(1), 'h': hyphen(3)}[text[i]])
		}
		for w := range 2 * len(text) {
			compare(t, l, nil, slot(w))
		}
	}
}

// TestAllShortTexts: P11.2 and P11.3, the items of all texts of up to five bytes of each kind.
func TestAllShortTexts(t *testing.T) {
	for text := range texts("a- \t\x1f", 5) {
		l := hyphened(text)
		for _, w := range []int{0, 5, 8, 13, 56} {
			compare(t, l, nil, slot(w))
		}
		compare(t, l, slots(8, 4), api.Slot{X: 45, W: 53})
	}
}

// TestListsByChance: P11.2 and P11.3, many lists in many profiles, those among them that Items never answers.
func TestListsByChance(t *testing.T) {
	next := chance(11)
	for range 20000 {
		l := some(next, next(30))
		s, rest := profile(next, 1+next(200))
		compare(t, l, s, rest)
	}
	for range 20 {
		l := some(next, 400)
		s, rest := profile(next, 1+next(400))
		compare(t, l, s, rest)
	}
}

// TestParagraphsByChance: P11.2 and P11.3, the items of many paragraphs.
func TestParagraphsByChance(t *testing.T) {
	next := chance(110)
	for range 3000 {
		l := paragraph(next, next(120))
		s, rest := profile(next, 1+next(300))
		compare(t, l, s, rest)
	}
	for range 4 {
		s, rest := profile(next, 400)
		compare(t, paragraph(next, 1000), s, rest)
	}
}
