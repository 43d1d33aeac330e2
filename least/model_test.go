package least_test

import (
	"cmp"
	"maps"
	"slices"
	"strings"
	"testing"

	"quire/api"
	"quire/item"
	"quire/least"
)

// chance tells numbers that look like chance, the same ones each time.
func chance(seed uint32) func(n int) int {
	return func(n int) int {
		seed = seed*1664525 + 1013904223
		return int(seed>>8) % n
	}
}

// texts goes through all texts of up to so many of some bytes.
func texts(bytes string, most int) func(yield func(string) bool) {
	return func(yield func(string) bool) {
		l := []string{""}
		for n := 0; ; n++ {
			var longer []string
			for _, s := range l {
				if !yield(s) {
					return
				}
				for i := range bytes {
					longer = append(longer, s+bytes[i:i+1])
				}
			}
			if n == most {
				return
			}
			l = longer
		}
	}
}

// kindsOf tells the kinds of items, a byte for each.
func kindsOf(l []api.Item) string {
	var out []byte
	for _, it := range l {
		out = append(out, "?bgpl"[it.Kind])
	}
	return string(out)
}

// glues tells whether items are Glues alone, or none.
func glues(l []api.Item) bool { return strings.Trim(kindsOf(l), "g") == "" }

// legalAt tells whether a break is legal, as the model has it.
func legalAt(l []api.Item, i int) bool {
	if i < 0 || i > len(l) {
		return false
	}
	two := ("g" + kindsOf(l) + "p")[i : i+2] // as if a Penalty stood at the end, and a Glue ahead of all
	return two[1] == 'p' || two[1] == 'g' && two[0] != 'g'
}

// behind tells where the line behind a break begins, as the model has it.
func behind(l []api.Item, b int) int {
	return len(l) - len(strings.TrimLeft(strings.TrimPrefix(kindsOf(l)[b:], "p"), "g"))
}

// begins tells where the first line begins, as the model has it.
func begins(l []api.Item) int { return len(l) - len(strings.TrimLeft(kindsOf(l), "g")) }

// mayBe tells whether breaks may be the items', word by word.
func mayBe(l []api.Item, breaks []int) bool {
	if len(breaks) == 0 || breaks[len(breaks)-1] != len(l) {
		return false
	}
	a := begins(l)
	for n, b := range breaks {
		switch {
		case n > 0 && b <= breaks[n-1], !legalAt(l, b), b <= a:
			return false
		case n < len(breaks)-1 && glues(l[b+1:]):
			return false
		}
		a = behind(l, b)
	}
	return true
}

// slotOf tells the width of a line's slot, as the model has it.
func slotOf(s []api.Slot, rest api.Slot, n int) int {
	for i, x := range s {
		if i == n {
			return x.W
		}
	}
	return rest.W
}

// ended tells whether a line's break is a Penalty with Hyphen.
func ended(l []api.Item, b int) bool { return b < len(l) && l[b].Kind == api.Penalty && l[b].Hyphen }

// measured tells a line's natural width, its stretch and its shrink, as the model has it.
func measured(l []api.Item, a, b int) (w, stretch, shrink int) {
	for i := range strings.TrimRight(kindsOf(l)[a:b], "g") {
		if l[a+i].Kind != api.Penalty {
			w += l[a+i].W
		}
		stretch += l[a+i].Stretch
		shrink += l[a+i].Shrink
	}
	if b < len(l) && l[b].Kind == api.Penalty {
		w += l[b].W
	}
	return
}

// lineDemerits tells a line's demerits, but for two hyphens, or -1, as the model has it.
func lineDemerits(l []api.Item, a, b, s int) int {
	w, stretch, shrink := measured(l, a, b)
	ratio := 0
	if w <= s {
		if b < len(l) && w < s {
			if stretch <= 0 || 1000*(s-w) >= 3001*stretch {
				return -1
			}
			ratio = (1000*(s-w) - 1000*(s-w)%stretch) / stretch
		}
	} else {
		if shrink <= 0 || 1000*(w-s) >= 1001*shrink {
			return -1
		}
		ratio = (1000*(w-s) - 1000*(w-s)%shrink) / shrink
	}
	sum := 10 + ratio*ratio/1000
	if b < len(l) && l[b].Kind == api.Penalty {
		sum += l[b].Cost
	}
	return sum * sum
}

// modelDemerits tells the demerits of breaks that may be, as the model has it.
func modelDemerits(l []api.Item, s []api.Slot, rest api.Slot, breaks []int) int {
	sum, a := 0, begins(l)
	for n, b := range breaks {
		d := lineDemerits(l, a, b, slotOf(s, rest, n))
		if d < 0 {
			return -1
		}
		sum += d
		if n > 0 && ended(l, breaks[n-1]) && ended(l, b) {
			sum += 10000
		}
		a = behind(l, b)
	}
	return sum
}

// plan is breaks and their demerits.
type plan struct {
	demerits int
	breaks   []int
}

// order tells which of two plans is the better one: by demerits, lines, and the breaks from the last one on.
func order(p, q plan) int {
	x, y := slices.Clone(p.breaks), slices.Clone(q.breaks)
	slices.Reverse(x)
	slices.Reverse(y)
	return cmp.Or(p.demerits-q.demerits, len(x)-len(y), slices.Compare(x, y))
}

// all goes through all rising lists of places of so many items, that end at the end or not.
func all(n int) func(yield func([]int) bool) {
	return func(yield func([]int) bool) {
		for bits := range 1 << (n + 1) {
			var l []int
			for i := range n + 1 {
				if bits>>i&1 == 1 {
					l = append(l, i)
				}
			}
			if !yield(l) {
				return
			}
		}
	}
}

// plans tells all breaks that may be and have demerits, the best ones first, as the model has it: out of all lists of places.
func plans(l []api.Item, s []api.Slot, rest api.Slot) []plan {
	var out []plan
	for breaks := range all(len(l)) {
		if !mayBe(l, breaks) {
			continue
		}
		if d := modelDemerits(l, s, rest, breaks); d >= 0 {
			out = append(out, plan{d, breaks})
		}
	}
	slices.SortFunc(out, order)
	return out
}

// piecesOf tells the lines of breaks, as the model has it.
func piecesOf(l []api.Item, s []api.Slot, rest api.Slot, breaks []int) []api.Piece {
	var out []api.Piece
	a := begins(l)
	for n, b := range breaks {
		w, _, _ := measured(l, a, b)
		out = append(out, api.Piece{A: a, B: b, Wide: w > slotOf(s, rest, n), Hyphen: ended(l, b), Natural: w})
		a = behind(l, b)
	}
	return out
}

// compareAll holds all lists of places against the model, and the lines of items against all breaks that may be; it tells these.
func compareAll(t *testing.T, l []api.Item, s []api.Slot, rest api.Slot) []plan {
	t.Helper()
	for breaks := range all(len(l)) {
		must, why := 0, api.ErrRange
		if mayBe(l, breaks) {
			must, why = modelDemerits(l, s, rest, breaks), api.OK
		}
		if d, e := least.Demerits(l, s, rest, breaks); d != must || e != why {
			t.Errorf("demerits of %s %v in %v, %v, of %v: %d, %v, not %d, %v", kindsOf(l), l, s, rest, breaks, d, e, must, why)
		}
	}
	ways := plans(l, s, rest)
	compareBest(t, l, s, rest, ways)
	return ways
}

// compareBest holds the lines of items against plans, the best of which comes first.
func compareBest(t *testing.T, l []api.Item, s []api.Slot, rest api.Slot, ways []plan) {
	t.Helper()
	var must []api.Piece
	demerits, why := 0, api.ErrMissing
	if glues(l) {
		must, demerits, why = []api.Piece{{A: len(l), B: len(l)}}, 100, api.OK
	} else if len(ways) > 0 {
		must, demerits, why = piecesOf(l, s, rest, ways[0].breaks), ways[0].demerits, api.OK
	}
	if p, d, e := least.Break(l, s, rest); d != demerits || e != why || !slices.Equal(p, must) {
		t.Errorf("break of %s %v in %v, %v: %v, %d, %v, not %v, %d, %v", kindsOf(l), few(l), few(s), rest, few(p), d, e, few(must), demerits, why)
	}
}

// best tells plans of a longer list, the best one first, as the model has it: of each break and each number of lines the best way is kept, whole.
func best(l []api.Item, s []api.Slot, rest api.Slot) []plan {
	known := make([]map[int]plan, len(l)+1) // by the break, and the lines
	for b := range known {
		known[b] = map[int]plan{}
		if !legalAt(l, b) {
			continue
		}
		put := func(a int, p plan) {
			n := len(p.breaks)
			d := lineDemerits(l, a, b, slotOf(s, rest, n))
			if d < 0 {
				return
			}
			if n > 0 && ended(l, p.breaks[n-1]) && ended(l, b) {
				d += 10000
			}
			q := plan{p.demerits + d, append(slices.Clip(p.breaks), b)}
			if was, ok := known[b][n+1]; !ok || order(q, was) < 0 {
				known[b][n+1] = q
			}
		}
		if a := begins(l); a < b {
			put(a, plan{})
		}
		for c := range b {
			if a := behind(l, c); a < b {
				for _, p := range known[c] {
					put(a, p)
				}
			}
		}
	}
	return slices.SortedFunc(maps.Values(known[len(l)]), order)
}

// follows: P12.3 and P5, what is told of lines: they are as item has it, and have the demerits that are told of their breaks.
func follows(t *testing.T, l []api.Item, s []api.Slot, rest api.Slot) {
	t.Helper()
	p, d, e := least.Break(l, s, rest)
	if e == api.ErrMissing && p == nil && d == 0 {
		return
	}
	if e != api.OK || len(p) == 0 {
		t.Fatalf("break of %v in %v, %v: %d lines, %d, %v", few(l), few(s), rest, len(p), d, e)
	}
	var breaks []int
	a := begins(l)
	for n, x := range p {
		w, e := item.Width(l, x.A, x.B, 0)
		if e != api.OK || x.A != a || w != x.Natural || x.Wide != (w > slotOf(s, rest, n)) || x.Hyphen != ended(l, x.B) || !item.Legal(l, x.B) && !glues(l) {
			t.Errorf("%v: line %v is %d wide, from %d on, its slot %d", few(l), x, w, a, slotOf(s, rest, n))
		}
		breaks = append(breaks, x.B)
		a, _ = item.Start(l, x.B)
	}
	if told, e := least.Demerits(l, s, rest, breaks); !glues(l) && (told != d || e != api.OK) {
		t.Errorf("%v: %d demerits, by its breaks %d, %v", few(l), d, told, e)
	}
}

// itemsOf makes items of the bytes of a text.
func itemsOf(text string) []api.Item {
	made := map[byte]api.Item{
		'b': box(5), 'c': box(8), 'z': box(0), 'g': glue(3, 1, 1), 'w': glue(2, 3, 2), 'n': glue(3, 0, 0),
		'p': penalty(0, 5), 'q': penalty(2, 0), 'h': hyphen(3, 50), 'i': hyphen(0, 0),
	}
	l := []api.Item{}
	for i := range len(text) {
		l = append(l, made[text[i]])
	}
	return l
}

// pick makes a function that tells one of a list's numbers by chance, the list being one of several.
func pick(next func(n int) int, lists ...[]int) func() int {
	l := lists[next(len(lists))]
	return func() int { return l[next(len(l))] }
}

// some makes items that may be, by chance, of few widths, so that many lines are just as wide as their slots, and many just as good.
func some(next func(n int) int, n, unit int) []api.Item {
	kinds := []string{"bbgg", "bgbgbp", "bg", "pg", "bbgpgpg", "bgbgp", "bp", "bbp"}[next(8)]
	wide := pick(next, at(1), at(1, 2), at(0, 1, 2, 3))
	more := pick(next, at(0), at(0, 1))
	stretch := pick(next, at(0, 1, 2, 5), at(500), at(1, 2, 3))
	shrink := pick(next, at(0), at(0, 1, 2), at(0, 3))
	cost := pick(next, at(0), at(0, 10), at(0, 1, 60))
	hyphens, inOrder := 1+next(4), next(3) > 0
	var l []api.Item
	for i := range n {
		k := next(len(kinds))
		if inOrder {
			k = i % len(kinds)
		}
		switch kinds[k] {
		case 'b':
			l = append(l, box(unit*wide()))
		case 'g':
			l = append(l, glue(unit*more(), stretch(), shrink()))
		case 'p':
			l = append(l, api.Item{Kind: api.Penalty, W: unit * more(), Cost: cost(), Hyphen: next(hyphens) > 0})
		}
	}
	return l
}

// profile makes a profile by chance, of few widths.
func profile(next func(n int) int, most, unit int) ([]api.Slot, api.Slot) {
	from := []int{unit * (1 + next(most)), unit * (1 + next(most)), unit * next(most)}
	var l []api.Slot
	for range next(7) {
		l = append(l, api.Slot{X: next(4096), W: from[next(3)]})
	}
	return l, api.Slot{X: next(4096), W: from[next(3)]}
}

// paragraph makes the items of a paragraph of so many bytes.
func paragraph(next func(n int) int, n int) []api.Item {
	from := []string{"table- ", "latenmoprcdsg  ", "AVToaLY.r,- ", "a-b \x1f\x01\x02^~", "1-a--b ", "hyphenation^`- "}[next(6)]
	text := make([]byte, n)
	for i := range text {
		text[i] = from[next(len(from))]
	}
	p := api.Para{Text: string(text), P: api.Props{Size: 1 + next(20), Pitch: 1, Orphan: 1, Widow: 1, Hyphen: next(2), Drop: next(5)}}
	p.Marks = slices.Repeat([]string{"12"}, strings.Count(p.Text, "\x02"))
	for n > 0 {
		k := 1 + next(min(n, 40))
		p.Spans = append(p.Spans, api.Span{Len: k, C: api.Char{Size: next(20), Track: next(4), Kern: next(2)}})
		n -= k
	}
	l, _ := item.Items(p)
	return l
}

// TestModelItself: the model does as the chapter's examples say.
func TestModelItself(t *testing.T) {
	abc := list(box(5), glue(3, 1, 1), box(5), glue(3, 1, 1), box(5))
	for _, x := range []struct {
		w      int
		breaks []int
		must   int
	}{{13, []int{3, 5}, 200}, {13, []int{5}, -1}, {15, []int{3, 5}, 16080200}} {
		if d := modelDemerits(abc, nil, slot(x.w), x.breaks); d != x.must || !mayBe(abc, x.breaks) {
			t.Errorf("%d, %v: %d, not %d", x.w, x.breaks, d, x.must)
		}
	}
	for _, told := range [][]plan{plans(abc, nil, slot(13)), best(abc, nil, slot(13))} {
		if len(told) == 0 || told[0].demerits != 200 || !slices.Equal(told[0].breaks, []int{3, 5}) {
			t.Error(told)
		}
	}
	if told := plans(abc, nil, slot(4)); len(told) != 0 {
		t.Error(told)
	}
	if told := best(abc, nil, slot(4)); len(told) != 0 {
		t.Error(told)
	}
}

// count is how many of the lists that were held against the model were of some kind, so that none is left out by chance.
type count struct {
	missing, one, more, ties, wide, hyphens int
}

// add counts a list by its plans.
func (c *count) add(l []api.Item, s []api.Slot, rest api.Slot, ways []plan) {
	if len(ways) == 0 {
		c.missing++
		return
	}
	told := piecesOf(l, s, rest, ways[0].breaks)
	if len(told) == 1 {
		c.one++
	} else {
		c.more++
	}
	if len(ways) > 1 && ways[0].demerits == ways[1].demerits {
		c.ties++
	}
	for n, p := range told {
		if p.Wide {
			c.wide++
		}
		if n > 0 && p.Hyphen && told[n-1].Hyphen {
			c.hyphens++
		}
	}
}

// TestAllShortLists: P12.1 to P12.3, all breaks of all lists of up to five items, in several profiles.
func TestAllShortLists(t *testing.T) {
	for text := range texts("bgpih", 5) {
		l := itemsOf(text)
		compareAll(t, l, nil, slot(0))
		compareAll(t, l, nil, slot(6))
		compareAll(t, l, nil, slot(8))
		compareAll(t, l, slots(13, 4), api.Slot{X: 40, W: 9})
		compareAll(t, l, slots(5, 5, 9), slot(12))
	}
	for text := range texts("zwq", 6) {
		l := itemsOf(text)
		compareAll(t, l, nil, slot(0))
		compareAll(t, l, slots(2), slot(3))
		compareAll(t, l, slots(0, 7), slot(1))
	}
}

// TestAllShortTexts: P12.1 to P12.3, all breaks of the items of all short texts.
func TestAllShortTexts(t *testing.T) {
	for text := range texts("a- \x1f", 6) {
		l := of(text)
		compareAll(t, l, nil, slot(9))
		compareAll(t, l, slots(8, 14), slot(10))
	}
}

// TestAllBreaksByChance: P12.1 to P12.3, all breaks of many lists in many profiles.
func TestAllBreaksByChance(t *testing.T) {
	next := chance(12)
	var c count
	for range 12000 {
		unit := 1 + 3*next(2)
		l := some(next, next(10), unit)
		s, rest := profile(next, 1+next(6), unit)
		c.add(l, s, rest, compareAll(t, l, s, rest))
	}
	if min(c.missing, c.one, c.more, c.ties, c.wide) < 100 || c.hyphens < 20 {
		t.Errorf("too few lists of a kind: %+v", c)
	}
}

// TestLongerListsByChance: P12.2 and P12.3, longer lists, the best breaks of which the model finds step by step.
func TestLongerListsByChance(t *testing.T) {
	next := chance(120)
	var c count
	for range 10000 {
		unit := 1 + 3*next(2)
		l := some(next, 10+next(30), unit)
		s, rest := profile(next, 1+next(8), unit)
		ways := best(l, s, rest)
		compareBest(t, l, s, rest, ways)
		follows(t, l, s, rest)
		c.add(l, s, rest, ways)
	}
	if min(c.missing, c.one, c.more, c.wide, c.hyphens) < 100 {
		t.Errorf("too few lists of a kind: %+v", c)
	}
}

// TestParagraphsByChance: P12.2 and P12.3, the items of many paragraphs.
func TestParagraphsByChance(t *testing.T) {
	next := chance(1200)
	some := 0
	for range 400 {
		l := paragraph(next, next(100))
		s, rest := profile(next, 100+next(300), 1)
		ways := best(l, s, rest)
		compareBest(t, l, s, rest, ways)
		some += min(len(ways), 1)
	}
	if some < 50 {
		t.Error("too few paragraphs have breaks: ", some)
	}
	for range 40 {
		s, rest := profile(next, 1000, 1)
		follows(t, paragraph(next, 1000), s, rest)
	}
}
