package metric_test

import (
	"math"
	"slices"
	"strings"
	"sync"
	"testing"

	"quire/api"
	"quire/metric"
)

// far is numbers that are out of all bounds.
var far = []int{math.MinInt, math.MinInt + 1, math.MinInt32 - 1, math.MinInt32, -1 << 16, -4097, -4096, -256, 1 << 16, 1<<16 + 1, math.MaxInt32, math.MaxInt32 + 1, 1 << 32, 1<<32 + 1, math.MaxInt - 1, math.MaxInt}

// plain makes a paragraph of Size 16 with one span, and a mark to each Ref.
func plain(text string, c api.Char) api.Para {
	p := api.Para{Text: text, P: api.Props{Size: 16, Pitch: 12, Orphan: 1, Widow: 1}}
	if text != "" {
		p.Spans = []api.Span{{Len: len(text), C: c}}
	}
	for range strings.Count(text, "\x02") {
		p.Marks = append(p.Marks, "1")
	}
	return p
}

// spanned makes a paragraph of Size 16 with these spans.
func spanned(text string, l ...api.Span) api.Para {
	p := plain(text, api.Char{})
	p.Spans = l
	return p
}

// span makes a span of its numbers.
func span(n, size, track, kern int) api.Span {
	return api.Span{Len: n, C: api.Char{Size: size, Track: track, Kern: kern}}
}

// list makes masses of their numbers, six by six.
func list(numbers ...int) []api.Mass {
	var out []api.Mass
	for x := range slices.Chunk(numbers, 6) {
		out = append(out, api.Mass{From: x[0], To: x[1], Kind: x[2], Size: x[3], W: x[4], Kern: x[5]})
	}
	return out
}

// weighs tells whether a paragraph may be, and has these masses.
func weighs(t *testing.T, p api.Para, numbers ...int) {
	t.Helper()
	if e := metric.Check(p); e != api.OK {
		t.Errorf("check of %q, %v: %v", short(p.Text), p.Spans, e)
	}
	if got, e := metric.Masses(p); e != api.OK || !slices.Equal(got, list(numbers...)) {
		t.Errorf("masses of %q, %v: %v, %v, not %v", short(p.Text), p.Spans, got, e, list(numbers...))
	}
}

// refused tells whether a paragraph is answered with an error, and no masses.
func refused(t *testing.T, p api.Para, why api.Errno) {
	t.Helper()
	if e := metric.Check(p); e != why {
		t.Errorf("check of %q, %v, %v, %q, %q: %v, not %v", short(p.Text), some(p.Spans), p.P, p.Label, some(p.Marks), e, why)
	}
	if l, e := metric.Masses(p); len(l) != 0 || e != why {
		t.Errorf("masses of %q, %v, %v, %q, %q: %v, %v, not %v", short(p.Text), some(p.Spans), p.P, p.Label, some(p.Marks), some(l), e, why)
	}
}

// may tells whether a paragraph may be, and has so many masses.
func may(t *testing.T, p api.Para, masses int) {
	t.Helper()
	if e := metric.Check(p); e != api.OK {
		t.Errorf("check of %q, %v, %v, %q, %q: %v", short(p.Text), some(p.Spans), p.P, p.Label, some(p.Marks), e)
	}
	if l, e := metric.Masses(p); len(l) != masses || e != api.OK {
		t.Errorf("masses of %q, %v, %v, %q, %q: %d, %v, not %d", short(p.Text), some(p.Spans), p.P, p.Label, some(p.Marks), len(l), e, masses)
	}
}

// short tells a text in a few bytes, for what a test says.
func short(text string) string {
	if len(text) > 40 {
		return text[:40] + ".."
	}
	return text
}

// some tells the first few of a list, for what a test says.
func some[T any](l []T) []T { return l[:min(len(l), 6)] }

// wide tells whether Width answers a number.
func wide(t *testing.T, text string, size, must int) {
	t.Helper()
	if n, e := metric.Width(text, size); n != must || e != api.OK {
		t.Errorf("width of %q, %d: %d, %v, not %d", short(text), size, n, e, must)
	}
}

// unmeasured tells whether Width answers an error, and no number.
func unmeasured(t *testing.T, text string, size int, why api.Errno) {
	t.Helper()
	if n, e := metric.Width(text, size); n != 0 || e != why {
		t.Errorf("width of %q, %d: %d, %v, not %v", short(text), size, n, e, why)
	}
}

// kerns tells whether Kern answers a number.
func kerns(t *testing.T, a, b byte, size, must int) {
	t.Helper()
	if n, e := metric.Kern(a, b, size); n != must || e != api.OK {
		t.Errorf("kern of %q, %q, %d: %d, %v, not %d", a, b, size, n, e, must)
	}
}

// natural tells whether Natural answers a number.
func natural(t *testing.T, l []api.Mass, from, to, must int) {
	t.Helper()
	if n, e := metric.Natural(l, from, to); n != must || e != api.OK {
		t.Errorf("natural of %d masses %v, %d, %d: %d, %v, not %d", len(l), some(l), from, to, n, e, must)
	}
}

// unnatural tells whether Natural answers an error, and no number.
func unnatural(t *testing.T, l []api.Mass, from, to int, why api.Errno) {
	t.Helper()
	if n, e := metric.Natural(l, from, to); n != 0 || e != why {
		t.Errorf("natural of %d masses %v, %d, %d: %d, %v, not %v", len(l), some(l), from, to, n, e, why)
	}
}

// TestExamples: the chapter's table, row by row.
func TestExamples(t *testing.T) {
	for b, must := range map[byte]int{'i': 2, 'm': 7, 'M': 8, '5': 5, 10: 0} {
		if n := metric.Em(b); n != must {
			t.Errorf("em of %q: %d, not %d", b, n, must)
		}
	}

	wide(t, "Wit", 8, 13)
	wide(t, "Wit", 10, 15)
	unmeasured(t, "", 0, api.ErrRange)

	kerns(t, 'A', 'V', 16, -2)
	kerns(t, 'r', '.', 16, -1)
	kerns(t, 'a', 'b', 16, 0)
	if n, e := metric.Kern('A', 'V', 0); n != 0 || e != api.ErrRange {
		t.Errorf("kern of size 0: %d, %v", n, e)
	}

	p := plain("AV", api.Char{Kern: 1})
	weighs(t, p, 0, 1, api.OfLetter, 16, 12, 0, 1, 2, api.OfLetter, 16, 12, -2)

	l, _ := metric.Masses(p)
	natural(t, l, 0, 2, 22)
	natural(t, l, 1, 2, 12)

	refused(t, plain("a\x03b", api.Char{}), api.ErrBytes)
	refused(t, spanned("a"), api.ErrArg)
}

// TestEachEm: P7.1, the em of each byte from 0 to 255; the ems of 32 to 126 are written one by one here.
func TestEachEm(t *testing.T) {
	const first = 32
	ems := "3" + // the blank
		"236666233662326" + // ! to /
		"5555555555" + // 0 to 9
		"2266666" + // : to @
		"66666666366686666666668666" + // A to Z
		"363333" + // [ to grave
		"55555355225275555353557555" + // a to z
		"3233" // { to ~
	if len(ems) != 126-32+1 {
		t.Fatal(len(ems))
	}
	for b := range 256 {
		must := 0
		if b >= first && b <= 126 {
			must = int(ems[b-first] - '0')
		}
		if n := metric.Em(byte(b)); n != must {
			t.Errorf("em of %q: %d, not %d", byte(b), n, must)
		}
	}
}

// TestWidths: P7.1, each byte of each size, and what a division leaves over, at each byte by itself.
func TestWidths(t *testing.T) {
	for b := range 256 {
		text := string([]byte{byte(b)})
		for size := 1; size <= 64; size++ {
			wide(t, text, size, metric.Em(byte(b))*size/8)
		}
	}
	wide(t, "i", 1, 0)
	wide(t, "i", 3, 0)
	wide(t, "i", 4, 1)
	wide(t, "ii", 3, 0) // not 12 by 8
	wide(t, "iiii", 7, 4)
	wide(t, "aaa", 5, 9) // 25 by 8 is 3
	wide(t, "m.W", 9, 7+2+9)
	wide(t, "W", 1, 1)
	wide(t, "W", 64, 64)
	wide(t, "M\n\tW\x00\x7f\x80\xff", 8, 16)
	for size := 1; size <= 64; size++ {
		wide(t, "", size, 0)
	}
}

// TestSizes: P7.1, sizes 0, 1, 64, 65 and ones further out.
func TestSizes(t *testing.T) {
	wide(t, "WW", 1, 2)
	wide(t, "WW", 64, 128)
	kerns(t, 'A', 'V', 1, 0)
	kerns(t, 'A', 'V', 64, -8)
	for _, size := range slices.Concat(far, []int{-2, -1, 0, 65, 66, 255}) {
		for _, text := range []string{"", "a", "WW", "\n", strings.Repeat("a", 4096)} {
			unmeasured(t, text, size, api.ErrRange)
		}
		for _, pair := range []string{"AV", "r.", "ab", "\n\n"} {
			if n, e := metric.Kern(pair[0], pair[1], size); n != 0 || e != api.ErrRange {
				t.Errorf("kern of %q, %d: %d, %v", pair, size, n, e)
			}
		}
	}
}

// TestLongWidths: P7.1 and P11, texts of 4,096 and 4,097 bytes, and far longer ones; a size out of its bounds is told ahead.
func TestLongWidths(t *testing.T) {
	for _, b := range []string{"W", "\n", " ", "\xff"} {
		for _, n := range []int{4095, 4096} {
			wide(t, strings.Repeat(b, n), 64, n*8*metric.Em(b[0]))
		}
		for _, n := range []int{4097, 4098, 8192, 1 << 16, 1<<16 + 1, 1 << 20} {
			text := strings.Repeat(b, n)
			for _, size := range []int{1, 16, 64} {
				unmeasured(t, text, size, api.ErrLong)
			}
			for _, size := range []int{math.MinInt, -1, 0, 65, math.MaxInt} {
				unmeasured(t, text, size, api.ErrRange)
			}
		}
	}
}

// TestEachPair: P7.1, the kerning of all pairs of bytes: of those that the chapter names, of the same ones turned round, of all others.
func TestEachPair(t *testing.T) {
	named := map[string]int{}
	for _, pair := range strings.Fields("AT AV AW AY TA VA WA YA LT LV LY PA To Ta Te Vo Va Yo Ya") {
		named[pair] = 2
	}
	for _, pair := range strings.Fields("r. r, f. f, v. y. Av Ay ov vo") {
		named[pair] = 1
	}
	if len(named) != 29 {
		t.Fatal(len(named))
	}
	for a := range 256 {
		for b := range 256 {
			pair := string([]byte{byte(a), byte(b)})
			for _, size := range []int{1, 7, 8, 16, 64} {
				kerns(t, byte(a), byte(b), size, -(named[pair] * size / 16))
			}
		}
	}
	for _, turned := range []string{"TL", "VL", "YL", "AP", "oT", "aT", "eT", "oV", "aV", "oY", "aY", ".r", ",r", ".f", ",f", ".v", ".y", "vA", "yA"} {
		kerns(t, turned[0], turned[1], 16, 0)
	}
}

// TestKerningLeavesOver: P7.1, each size of both kinds of pairs: what a division leaves over is dropped towards 0.
func TestKerningLeavesOver(t *testing.T) {
	for size := 1; size <= 64; size++ {
		two, one := 0, 0
		for n := size; n >= 8; n -= 8 {
			two--
		}
		for n := size; n >= 16; n -= 16 {
			one--
		}
		kerns(t, 'A', 'V', size, two)
		kerns(t, 'Y', 'a', size, two)
		kerns(t, 'r', ',', size, one)
		kerns(t, 'v', 'o', size, one)
		kerns(t, 'o', 'o', size, 0)
	}
}

// TestBytesThatMayNotBe: P7.2, each byte by itself, at a text's ends and in its midst; a Field among those that may not be.
func TestBytesThatMayNotBe(t *testing.T) {
	for b := range 256 {
		for _, ends := range [][2]string{{"", ""}, {"a", ""}, {"", "b"}, {"a^", " b"}} {
			p := plain(ends[0]+string([]byte{byte(b)})+ends[1], api.Char{})
			if b == 1 || b == 2 || b == 9 || b >= 31 && b <= 126 {
				if e := metric.Check(p); e != api.OK {
					t.Errorf("check of %q: %v", p.Text, e)
				}
			} else {
				refused(t, p, api.ErrBytes)
			}
		}
	}
	refused(t, plain("\x03", api.Char{}), api.ErrBytes)
	refused(t, plain(strings.Repeat("a", 4095)+"\x03", api.Char{}), api.ErrBytes)
	refused(t, plain("\x03"+strings.Repeat("a", 4095), api.Char{}), api.ErrBytes)
}

// TestLongParagraphs: P7.2 and P11, texts of 4,096 and 4,097 bytes, and of none.
func TestLongParagraphs(t *testing.T) {
	may(t, plain("", api.Char{}), 0)
	may(t, plain(strings.Repeat("a", 4095), api.Char{}), 4095)
	may(t, plain(strings.Repeat("a", 4096), api.Char{}), 4096)
	may(t, plain(strings.Repeat("\x02", 4096), api.Char{}), 4096)
	may(t, plain(strings.Repeat("a^~ ", 1024), api.Char{}), 2048)
	for _, n := range []int{4097, 4098, 1 << 16, 1<<16 + 1, 1 << 20} {
		for _, b := range []string{"a", " ", "\x02", "\x03", "\n"} {
			refused(t, plain(strings.Repeat(b, n), api.Char{}), api.ErrLong)
		}
	}
}

// properties tells each property of a paragraph, and its bounds.
func properties(p *api.Props) []struct {
	name        string
	n           *int
	least, most int
} {
	return []struct {
		name        string
		n           *int
		least, most int
	}{
		{"Size", &p.Size, 1, 64}, {"Pitch", &p.Pitch, 1, 255}, {"Align", &p.Align, 0, 3},
		{"First", &p.First, 0, 255}, {"In", &p.In, 0, 255}, {"Out", &p.Out, 0, 255},
		{"Before", &p.Before, 0, 255}, {"After", &p.After, 0, 255},
		{"Next", &p.Next, 0, 1}, {"Whole", &p.Whole, 0, 1},
		{"Orphan", &p.Orphan, 1, 4}, {"Widow", &p.Widow, 1, 4},
		{"Hyphen", &p.Hyphen, 0, 1}, {"Least", &p.Least, 0, 1},
		{"Drop", &p.Drop, 0, 4}, {"List", &p.List, 0, 8}, {"Level", &p.Level, 0, 3},
	}
}

// TestProperties: P7.2, each field of P at its least and greatest, and beyond on either side; of the empty text too.
func TestProperties(t *testing.T) {
	for i := range 17 {
		for _, text := range []string{"", "ab"} {
			p := plain(text, api.Char{})
			x := properties(&p.P)[i]
			for n := x.least; n <= x.most; n++ {
				*x.n = n
				may(t, p, len(text))
			}
			for _, n := range slices.Concat(far, []int{x.least - 2, x.least - 1, x.most + 1, x.most + 2}) {
				*x.n = n
				refused(t, p, api.ErrArg)
			}
		}
	}
	all := plain("ab", api.Char{})
	for _, x := range properties(&all.P) {
		*x.n = x.most
	}
	may(t, all, 2)
	for _, x := range properties(&all.P) {
		*x.n = x.least
	}
	may(t, all, 2)
	refused(t, api.Para{}, api.ErrArg)
}

// TestLooks: P7.2, each field of a span's Char at its least and greatest, and beyond; of the first, of a middle and of the last span.
func TestLooks(t *testing.T) {
	for i := range 3 {
		for f, most := range []int{64, 15, 1} {
			l := []api.Span{span(1, 8, 1, 1), span(2, 0, 0, 0), span(1, 64, 15, 1)}
			n := []*int{&l[i].C.Size, &l[i].C.Track, &l[i].C.Kern}[f]
			for *n = 0; *n <= most; *n++ {
				may(t, spanned("abcd", l...), 4)
			}
			for _, *n = range slices.Concat(far, []int{-2, -1, most + 1, most + 2, 255}) {
				refused(t, spanned("abcd", l...), api.ErrArg)
			}
		}
	}
}

// TestLens: P7.2, spans of Len 0 and below, and spans that are together less, as much and more than the text.
func TestLens(t *testing.T) {
	for n := -2; n <= 6; n++ {
		if p := spanned("abcd", span(n, 0, 0, 0)); n == 4 {
			may(t, p, 4)
		} else {
			refused(t, p, api.ErrArg)
		}
	}
	for a := -3; a <= 7; a++ {
		for b := -3; b <= 7; b++ {
			if p := spanned("abcd", span(a, 0, 0, 0), span(b, 8, 0, 0)); a > 0 && b > 0 && a+b == 4 {
				may(t, p, 4)
			} else {
				refused(t, p, api.ErrArg)
			}
		}
	}
	for _, at := range []int{0, 1, 2} {
		l := []api.Span{span(1, 0, 0, 0), span(1, 0, 0, 0)}
		refused(t, spanned("ab", slices.Insert(l, at, span(0, 0, 0, 0))...), api.ErrArg)
	}
	ones := slices.Repeat([]api.Span{span(1, 0, 0, 0)}, 4097)
	may(t, spanned(strings.Repeat("a", 4096), ones[:4096]...), 4096)
	refused(t, spanned(strings.Repeat("a", 4096), ones[:4095]...), api.ErrArg)
	refused(t, spanned(strings.Repeat("a", 4096), ones...), api.ErrArg)
	may(t, spanned("aa", span(1, 0, 0, 0), span(1, 0, 0, 0)), 2) // alike, but not one span
}

// TestNoText: P7.2, the empty text has no spans and no masses.
func TestNoText(t *testing.T) {
	weighs(t, plain("", api.Char{}))
	p := plain("", api.Char{})
	p.Spans, p.Marks = []api.Span{}, []string{}
	weighs(t, p)
	for _, n := range slices.Concat(far, []int{-1, 0, 1}) {
		refused(t, spanned("", span(n, 0, 0, 0)), api.ErrArg)
	}
	p.Marks = []string{"1"}
	refused(t, p, api.ErrArg)
}

// TestLensTooGreatForAnInt: P7.2, Lens whose sum wraps round to the text's length are no spans of it.
func TestLensTooGreatForAnInt(t *testing.T) {
	for _, l := range [][]int{
		{math.MaxInt, math.MaxInt, 2 + 2},
		{math.MaxInt, 5, math.MaxInt},
		{4, math.MaxInt, math.MaxInt, 2},
		{1, math.MaxInt, math.MaxInt, 5},
		{math.MinInt, math.MinInt, 4},
		{math.MinInt, math.MaxInt, 5},
		{math.MaxInt, -math.MaxInt, 4},
		{math.MaxInt, math.MinInt, 5},
		{4, math.MinInt, math.MinInt},
		{1 << 62, 1 << 62, 1 << 62, 1 << 62, 4},
		{1<<32 + 4},
		{1 << 32, 4},
		{3, 1<<32 + 1},
		{math.MaxInt32, math.MaxInt32, 6},
		{5, -1},
		{-1, 5},
	} {
		var spans []api.Span
		for _, n := range l {
			spans = append(spans, span(n, 0, 0, 0))
		}
		refused(t, spanned("abcd", spans...), api.ErrArg)
	}
	for _, n := range far {
		refused(t, spanned("abcd", span(n, 0, 0, 0)), api.ErrArg)
		refused(t, spanned("abcd", span(4, 0, 0, 0), span(n, 0, 0, 0)), api.ErrArg)
		refused(t, spanned("abcd", span(n, 0, 0, 0), span(4, 0, 0, 0)), api.ErrArg)
	}
}

// TestLabels: P7.2, labels of 0 to 16 bytes, of 17 and more, and each byte in one.
func TestLabels(t *testing.T) {
	for _, text := range []string{"", "ab"} {
		p := plain(text, api.Char{})
		for n := range 17 {
			p.Label = strings.Repeat("x", n)
			may(t, p, len(text))
		}
		for _, n := range []int{17, 18, 255, 256, 257, 4096, 1 << 16, 1<<16 + 1} {
			p.Label = strings.Repeat("x", n)
			refused(t, p, api.ErrArg)
		}
		for b := range 256 {
			for _, ends := range [][2]string{{"", ""}, {"1", "."}, {"", ")"}, {"123456789012345", ""}} {
				p.Label = ends[0] + string([]byte{byte(b)}) + ends[1]
				if b >= 33 && b <= 126 {
					may(t, p, len(text))
				} else {
					refused(t, p, api.ErrArg)
				}
			}
		}
	}
}

// TestMarks: P7.2, marks of 0, 1, 8 and 9 bytes, each byte in one, one mark too few and one too many.
func TestMarks(t *testing.T) {
	for i := range 3 {
		p := plain("\x02a\x02\x02", api.Char{})
		for n := range 12 {
			if p.Marks[i] = strings.Repeat("x", n); n >= 1 && n <= 8 {
				may(t, p, 4)
			} else {
				refused(t, p, api.ErrArg)
			}
		}
		for b := range 256 {
			for _, ends := range [][2]string{{"", ""}, {"1", ""}, {"", "1"}, {"1234567", ""}} {
				if p.Marks[i] = ends[0] + string([]byte{byte(b)}) + ends[1]; b >= 33 && b <= 126 {
					may(t, p, 4)
				} else {
					refused(t, p, api.ErrArg)
				}
			}
		}
	}
	for refs := range 5 {
		p := plain(strings.Repeat("a\x02", refs), api.Char{})
		may(t, p, 2*refs)
		for n := range 8 {
			p.Marks = slices.Repeat([]string{"1"}, n)
			if n == refs {
				may(t, p, 2*refs)
			} else {
				refused(t, p, api.ErrArg)
			}
		}
	}
	p := plain(strings.Repeat("\x02", 4096), api.Char{})
	p.Marks = p.Marks[:4095]
	refused(t, p, api.ErrArg)
	p.Marks = slices.Repeat([]string{"1"}, 4097)
	refused(t, p, api.ErrArg)
	anchors := plain("\x01\t\x1f", api.Char{})
	may(t, anchors, 3)
	anchors.Marks = []string{"1"}
	refused(t, anchors, api.ErrArg)
}

// TestOrderOfErrors: P7.2 and rule 1, each kind of ErrArg together with a text that may not be, or is too long.
func TestOrderOfErrors(t *testing.T) {
	faults := []func(p *api.Para){
		func(p *api.Para) {},
		func(p *api.Para) { p.Spans = nil },
		func(p *api.Para) { p.Spans = []api.Span{span(0, 65, 16, 2)} },
		func(p *api.Para) { p.Spans[0].C.Size = -1 },
		func(p *api.Para) { p.Spans[0].C.Track = 16 },
		func(p *api.Para) { p.Spans[0].C.Kern = 2 },
		func(p *api.Para) { p.P = api.Props{} },
		func(p *api.Para) { p.P.Level = 4 },
		func(p *api.Para) { p.Label = "a label of 18 bytes" },
		func(p *api.Para) { p.Label = "\n" },
		func(p *api.Para) { p.Marks = []string{"1"} },
		func(p *api.Para) { p.Marks = []string{""} },
	}
	for i, fault := range faults {
		for text, why := range map[string]api.Errno{
			"ab":                             api.ErrArg,
			"a\x03":                          api.ErrBytes,
			"a\n":                            api.ErrBytes,
			"\x03\x7f":                       api.ErrBytes,
			strings.Repeat("a", 4097):        api.ErrLong,
			strings.Repeat("\x03", 4097):     api.ErrLong,
			"\n" + strings.Repeat("a", 4096): api.ErrLong,
		} {
			p := plain(text, api.Char{})
			fault(&p)
			if i > 0 || why != api.ErrArg {
				refused(t, p, why)
			}
		}
	}
}

// TestKinds: P7.2, the masses of clusters of each kind, of Size 0 and of another size, with a track.
func TestKinds(t *testing.T) {
	const text = "a. \t\x1f\x01\x02"
	p := plain(text, api.Char{})
	p.Marks = []string{"12"}
	weighs(t, p,
		0, 1, api.OfLetter, 16, 10, 0,
		1, 2, api.OfSign, 16, 4, 0,
		2, 3, api.OfBlank, 16, 6, 0,
		3, 4, api.OfTab, 16, 0, 0,
		4, 5, api.OfSoft, 16, 0, 0,
		5, 6, api.OfAnchor, 16, 0, 0,
		6, 7, api.OfRef, 16, 20, 0)
	p.Spans[0].C = api.Char{Size: 9, Track: 7}
	weighs(t, p,
		0, 1, api.OfLetter, 9, 5+7, 0,
		1, 2, api.OfSign, 9, 2+7, 0,
		2, 3, api.OfBlank, 9, 3+7, 0,
		3, 4, api.OfTab, 9, 0, 0,
		4, 5, api.OfSoft, 9, 0, 0,
		5, 6, api.OfAnchor, 9, 0, 0,
		6, 7, api.OfRef, 9, 5+5, 0)
	p.Spans[0].C = api.Char{Size: 64, Track: 15, Kern: 1}
	weighs(t, p,
		0, 1, api.OfLetter, 64, 40+15, 0,
		1, 2, api.OfSign, 64, 16+15, 0,
		2, 3, api.OfBlank, 64, 24+15, 0,
		3, 4, api.OfTab, 64, 0, 0,
		4, 5, api.OfSoft, 64, 0, 0,
		5, 6, api.OfAnchor, 64, 0, 0,
		6, 7, api.OfRef, 64, 80, 0)
}

// TestAccents: P7.2, a letter with accents is as wide as the letter; its look is that of its first byte; an accent by itself is a sign.
func TestAccents(t *testing.T) {
	weighs(t, plain("m^~^", api.Char{Track: 2}),
		0, 3, api.OfLetter, 16, 14+2, 0,
		3, 4, api.OfSign, 16, 6+2, 0)
	weighs(t, spanned("A^Vo`", span(1, 8, 1, 1), span(1, 32, 9, 0), span(1, 0, 2, 1), span(1, 16, 3, 1), span(1, 64, 15, 0)),
		0, 2, api.OfLetter, 8, 6+1, 0,
		2, 3, api.OfLetter, 16, 12+2, 0,
		3, 5, api.OfLetter, 16, 10+3, -2)
	weighs(t, plain("A^V~`o", api.Char{Kern: 1}),
		0, 2, api.OfLetter, 16, 12, 0,
		2, 5, api.OfLetter, 16, 12, -2,
		5, 6, api.OfLetter, 16, 10, -2)
	weighs(t, plain("r^.", api.Char{Kern: 1}),
		0, 2, api.OfLetter, 16, 6, 0,
		2, 3, api.OfSign, 16, 4, -1)
}

// TestAcrossSpans: P7.2, clusters take the look of the span that has their first byte; spans end at clusters, within them, and more than one within one.
func TestAcrossSpans(t *testing.T) {
	weighs(t, spanned("abc", span(1, 8, 0, 0), span(1, 0, 1, 0), span(1, 24, 2, 0)),
		0, 1, api.OfLetter, 8, 5, 0,
		1, 2, api.OfLetter, 16, 11, 0,
		2, 3, api.OfLetter, 24, 17, 0)
	weighs(t, spanned("a^~b", span(1, 8, 1, 0), span(1, 16, 2, 0), span(1, 24, 3, 0), span(1, 32, 4, 0)),
		0, 3, api.OfLetter, 8, 5+1, 0,
		3, 4, api.OfLetter, 32, 20+4, 0)
	weighs(t, spanned("a^~b", span(2, 8, 1, 0), span(2, 16, 2, 0)),
		0, 3, api.OfLetter, 8, 5+1, 0,
		3, 4, api.OfLetter, 16, 10+2, 0)
}

// TestKerningOfMasses: P7.2, kerning is of two letters or signs whose looks both have Kern 1 and whose sizes are the same, tracks aside.
func TestKerningOfMasses(t *testing.T) {
	for _, x := range []struct{ a, b, kern int }{{1, 1, -2}, {1, 0, 0}, {0, 1, 0}, {0, 0, 0}} {
		weighs(t, spanned("AV", span(1, 0, 0, x.a), span(1, 0, 0, x.b)),
			0, 1, api.OfLetter, 16, 12, 0,
			1, 2, api.OfLetter, 16, 12, x.kern)
	}
	for _, x := range []struct{ a, b, kern int }{{0, 0, -2}, {0, 16, -2}, {16, 0, -2}, {16, 16, -2}, {32, 32, -4}, {0, 15, 0}, {17, 0, 0}, {32, 16, 0}, {7, 7, 0}, {8, 8, -1}, {64, 64, -8}} {
		p := spanned("AV", span(1, x.a, 0, 1), span(1, x.b, 3, 1))
		l, e := metric.Masses(p)
		if e != api.OK || len(l) != 2 || l[0].Kern != 0 || l[1].Kern != x.kern {
			t.Errorf("sizes %d, %d: %v, %v, not %d", x.a, x.b, l, e, x.kern)
		}
	}
	for _, between := range []string{" ", "\t", "\x1f", "\x01", "\x02", "-"} {
		l, e := metric.Masses(plain("A"+between+"V", api.Char{Kern: 1}))
		if e != api.OK || len(l) != 3 || l[1].Kern != 0 || l[2].Kern != 0 {
			t.Errorf("A%qV: %v, %v", between, l, e)
		}
	}
	weighs(t, plain("AVA", api.Char{Kern: 1}), 0, 1, 1, 16, 12, 0, 1, 2, 1, 16, 12, -2, 2, 3, 1, 16, 12, -2)
}

// TestRefs: P7.2, a reference is as wide as the bytes of its own mark, of its own size, without its track, and is not kerned.
func TestRefs(t *testing.T) {
	p := spanned("\x02a\x02\x02", span(1, 8, 5, 1), span(2, 0, 1, 1), span(1, 7, 15, 1))
	p.Marks = []string{"i", "AV", "12345678"}
	weighs(t, p,
		0, 1, api.OfRef, 8, 2, 0,
		1, 2, api.OfLetter, 16, 10+1, 0,
		2, 3, api.OfRef, 16, 24, 0,
		3, 4, api.OfRef, 7, 8*4, 0)
	p.Marks = []string{"WWWWWWWW", "~", "*"}
	p.Spans[0].C.Size = 64
	weighs(t, p,
		0, 1, api.OfRef, 64, 512, 0,
		1, 2, api.OfLetter, 16, 10+1, 0,
		2, 3, api.OfRef, 16, 6, 0,
		3, 4, api.OfRef, 7, 5, 0)
}

// TestOwnSize: P7.2, a look's Size 0 is the paragraph's, each one from 1 to 64.
func TestOwnSize(t *testing.T) {
	for size := 1; size <= 64; size++ {
		p := spanned("WW", span(1, 0, 0, 0), span(1, 65-size, 0, 0))
		p.P.Size = size
		weighs(t, p, 0, 1, api.OfLetter, size, size, 0, 1, 2, api.OfLetter, 65-size, 65-size, 0)
	}
}

// TestOtherPropertiesDoNotWeigh: P7.2, masses hang on no property but Size, and on no label.
func TestOtherPropertiesDoNotWeigh(t *testing.T) {
	p := plain("AV o", api.Char{Kern: 1})
	must := []int{0, 1, 1, 16, 12, 0, 1, 2, 1, 16, 12, -2, 2, 3, 3, 16, 6, 0, 3, 4, 1, 16, 10, 0}
	for i := range 17 {
		if x := properties(&p.P)[i]; x.name != "Size" {
			*x.n = x.most
			weighs(t, p, must...)
		}
	}
	p.Label = "12."
	weighs(t, p, must...)
}

// TestNatural: P7.3, runs from and to at 0, at the length and between: the Kern of all but the first one.
func TestNatural(t *testing.T) {
	l := list(0, 1, 1, 16, 10, -5, 1, 2, 1, 16, 20, -3, 2, 3, 1, 16, 30, -1, 3, 4, 1, 16, 40, 0)
	natural(t, l, 0, 0, 0)
	natural(t, l, 0, 1, 10)
	natural(t, l, 0, 2, 27)
	natural(t, l, 0, 3, 56)
	natural(t, l, 0, 4, 96)
	natural(t, l, 1, 1, 0)
	natural(t, l, 1, 2, 20)
	natural(t, l, 1, 4, 89)
	natural(t, l, 3, 4, 40)
	natural(t, l, 4, 4, 0)
	natural(t, nil, 0, 0, 0)
	natural(t, []api.Mass{}, 0, 0, 0)
	natural(t, list(0, 1, 1, 16, 0, -64, 1, 2, 1, 16, 0, -64, 2, 3, 1, 16, 0, -64), 0, 3, -128)
	// The other fields are not looked at.
	natural(t, list(-7, math.MinInt, 99, math.MaxInt, 4095, -64, math.MaxInt, 0, -1, -1, 4095, -64), 0, 2, 8126)
}

// TestRunsOutOfBounds: P7.3 and P11, runs whose ends are below 0, turned round, or past the end.
func TestRunsOutOfBounds(t *testing.T) {
	l := list(0, 1, 1, 16, 10, 0, 1, 2, 1, 16, 20, -3)
	for from := -2; from <= 4; from++ {
		for to := -2; to <= 4; to++ {
			if from < 0 || to < from || to > 2 {
				unnatural(t, l, from, to, api.ErrRange)
			}
			if from != 0 || to != 0 {
				unnatural(t, nil, from, to, api.ErrRange)
			}
		}
	}
	for _, n := range far {
		for _, at := range slices.Concat(far, []int{-1, 0, 1, 2, 3}) {
			unnatural(t, l, n, at, api.ErrRange)
			unnatural(t, l, at, n, api.ErrRange)
		}
	}
	spare := list(0, 1, 1, 16, 10, 0, 1, 2, 1, 16, 20, -3, 2, 3, 1, 16, 9999, 9)
	natural(t, spare[:2], 0, 2, 27)
	unnatural(t, spare[:2], 0, 3, api.ErrRange)
}

// TestMassesThatMayNotBe: P7.3, W and Kern at their least and greatest, and beyond, at each place, within the run and outside of it.
func TestMassesThatMayNotBe(t *testing.T) {
	for i := range 3 {
		l := make([]api.Mass, 3)
		for _, l[i].W = range []int{0, 1, 4094, 4095} {
			natural(t, l, 0, 3, l[i].W)
		}
		for _, l[i].W = range slices.Concat(far, []int{-2, -1, 4096, 4097}) {
			for _, run := range [][2]int{{0, 3}, {0, 0}, {1, 2}, {3, 3}} {
				unnatural(t, l, run[0], run[1], api.ErrArg)
			}
		}
		l = make([]api.Mass, 3)
		for _, l[i].Kern = range []int{0, -1, -63, -64} {
			natural(t, l, 0, 3, l[i].Kern*min(i, 1))
		}
		for _, l[i].Kern = range slices.Concat(far, []int{1, 2, 64, -65, -66}) {
			for _, run := range [][2]int{{0, 3}, {0, 0}, {1, 2}, {3, 3}} {
				unnatural(t, l, run[0], run[1], api.ErrArg)
			}
		}
	}
}

// TestManyMasses: P7.3 and P11, 4,096 and 4,097 masses.
func TestManyMasses(t *testing.T) {
	l := slices.Repeat([]api.Mass{{W: 4095, Kern: -64}}, 4098)
	natural(t, l[:4096], 0, 4096, 4095*4096-64*4095)
	natural(t, l[:4096], 4095, 4096, 4095)
	natural(t, l[:4096], 4096, 4096, 0)
	unnatural(t, l[:4096], 0, 4097, api.ErrRange)
	unnatural(t, l[:4097], 0, 4097, api.ErrLong)
	unnatural(t, l[:4097], 0, 0, api.ErrLong)
	unnatural(t, l, 0, 1, api.ErrLong)
}

// TestOrderOfNaturalsErrors: P7.3, ErrLong ahead of ErrArg ahead of ErrRange.
func TestOrderOfNaturalsErrors(t *testing.T) {
	long := make([]api.Mass, 4097)
	odd := slices.Clone(long)
	odd[4096].W = -1
	for _, run := range [][2]int{{0, 1}, {-1, 1}, {2, 1}, {0, 4098}, {math.MinInt, math.MaxInt}, {math.MaxInt, math.MinInt}} {
		unnatural(t, long, run[0], run[1], api.ErrLong)
		unnatural(t, odd, run[0], run[1], api.ErrLong)
		unnatural(t, odd[1:], run[0], run[1], api.ErrArg)
		unnatural(t, []api.Mass{{Kern: 1}}, run[0], run[1], api.ErrArg)
	}
	unnatural(t, long[1:], -1, 1, api.ErrRange)
}

// TestAnswersAreNewMemory: rule 4, masses that are changed, their spare room too, change neither other answers nor later ones.
func TestAnswersAreNewMemory(t *testing.T) {
	p := plain("AV.", api.Char{Kern: 1})
	must := list(0, 1, 1, 16, 12, 0, 1, 2, 1, 16, 12, -2, 2, 3, 2, 16, 4, 0)
	a, _ := metric.Masses(p)
	b, _ := metric.Masses(p)
	for i := range a[:cap(a)] {
		a[:cap(a)][i] = api.Mass{From: -1, W: -2, Kern: 3}
	}
	if !slices.Equal(b, must) {
		t.Errorf("masses have become %v", b)
	}
	if c, _ := metric.Masses(p); !slices.Equal(c, must) {
		t.Errorf("masses are told as %v", c)
	}
}

// TestListsStayAsTheyWere: rule 4, what is handed in is not changed, its spare room neither read nor written, and nothing is looked at later.
func TestListsStayAsTheyWere(t *testing.T) {
	spans := []api.Span{span(1, 8, 1, 1), span(3, 0, 0, 1), span(9, 99, 99, 9)}
	marks := []string{"12", "3", "", "far too long a mark"}
	p := spanned("A\x02V\x02", spans[:2]...)
	p.Spans, p.Marks = spans[:2], marks[:2]
	keptSpans, keptMarks := slices.Clone(spans), slices.Clone(marks)
	l, e := metric.Masses(p)
	if e != api.OK || metric.Check(p) != api.OK || len(l) != 4 {
		t.Fatal(l, e)
	}
	if !slices.Equal(spans, keptSpans) || !slices.Equal(marks, keptMarks) {
		t.Errorf("%v and %q have become %v and %q", keptSpans, keptMarks, spans, marks)
	}
	before := slices.Clone(l)
	clear(spans)
	clear(marks)
	if !slices.Equal(l, before) {
		t.Errorf("masses have become %v", l)
	}
	all := append(slices.Clone(l), api.Mass{W: -1})
	kept := slices.Clone(all)
	if _, e := metric.Natural(all[:4], 1, 3); e != api.OK || !slices.Equal(all, kept) {
		t.Errorf("%v have become %v, %v", kept, all, e)
	}
}

// TestNothingIsKept: P1, what a call answers hangs on its arguments alone, not on the calls ahead of it, refused ones among them.
func TestNothingIsKept(t *testing.T) {
	for range 3 {
		weighs(t, plain("V", api.Char{Kern: 1}), 0, 1, 1, 16, 12, 0)
		weighs(t, plain("A", api.Char{Kern: 1}), 0, 1, 1, 16, 12, 0)
		refused(t, plain("A\n", api.Char{Kern: 1}), api.ErrBytes)
		weighs(t, plain("V", api.Char{Kern: 1}), 0, 1, 1, 16, 12, 0)
		wide(t, "Wit", 8, 13)
		unmeasured(t, "Wit", 65, api.ErrRange)
		wide(t, "Wit", 8, 13)
		natural(t, []api.Mass{{W: 3}, {W: 4, Kern: -1}}, 0, 2, 6)
		natural(t, []api.Mass{{W: 3}, {W: 4, Kern: -1}}, 0, 2, 6)
	}
}

// TestSideBySide: P1 and rule 8, calls in goroutines of their own do not see one another.
func TestSideBySide(t *testing.T) {
	var all sync.WaitGroup
	for seed := range 8 {
		all.Go(func() {
			next := chance(uint32(seed))
			for range 200 {
				compare(t, paragraph(next, next(30)))
			}
		})
	}
	all.Wait()
}
