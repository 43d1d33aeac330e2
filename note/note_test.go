package note_test

import (
	"math"
	"slices"
	"strconv"
	"strings"
	"sync"
	"testing"

	"quire/api"
	"quire/note"
	"quire/para"
)

// far is numbers that are out of all bounds.
var far = []int{math.MinInt, math.MinInt + 1, math.MinInt32 - 1, math.MinInt32, -1 << 17, -1 << 16, -100000, -99999, -4096, -4095, -256, 1 << 17, 1<<17 + 1, math.MaxInt32, math.MaxInt32 + 1, 1 << 32, 1<<32 + 1, 1<<32 + 100, math.MaxInt - 1, math.MaxInt}

// noWidths is numbers that no column is wide, with those beside the bounds.
var noWidths = slices.Concat(far, []int{-2, -1, 4096, 4097, 8190, 1 << 16, 1<<16 + 20})

// ln is a line that is not Wide.
func ln(from, to, w, natural int) api.Line {
	return api.Line{From: from, To: to, X: 14, W: w, Natural: natural}
}

// widely is a line that is Wide.
func widely(from, to, w, natural int) api.Line {
	return api.Line{From: from, To: to, X: 14, W: w, Natural: natural, Flag: api.Wide}
}

// laid tells whether a text has these lines.
func laid(t *testing.T, text string, w int, must ...api.Line) {
	t.Helper()
	if l, e := note.Lay(text, w); !slices.Equal(l, must) || e != api.OK {
		t.Errorf("lines of %q in %d: %v, %v, not %v", text, w, l, e, must)
	}
	compare(t, text, w)
}

// unlaid tells whether no lines, but an error is told.
func unlaid(t *testing.T, text string, w int, must api.Errno) {
	t.Helper()
	if l, e := note.Lay(text, w); len(l) != 0 || e != must {
		t.Errorf("lines of %d bytes in %d: %v, %v, not %v", len(text), w, l, e, must)
	}
}

// split tells whether lines are split into these parts.
func split(t *testing.T, l []api.Line, h int, first, others []api.Line) {
	t.Helper()
	if a, b, e := note.Split(l, h); !slices.Equal(a, first) || !slices.Equal(b, others) || e != api.OK {
		t.Errorf("%d lines, split by %d: %v, %v, %v, not %v, %v", len(l), h, a, b, e, first, others)
	}
}

// unsplit tells whether lines are not split, but an error is told.
func unsplit(t *testing.T, l []api.Line, h int) {
	t.Helper()
	if a, b, e := note.Split(l, h); len(a) != 0 || len(b) != 0 || e != api.ErrRange {
		t.Errorf("%d lines, split by %d: %v, %v, %v", len(l), h, a, b, e)
	}
}

// marked tells whether a note has this mark.
func marked(t *testing.T, n int, must string) {
	t.Helper()
	if s, e := note.Mark(n); s != must || e != api.OK {
		t.Errorf("mark of %d: %q, %v, not %q", n, s, e, must)
	}
}

// unmarked tells whether a number has no mark.
func unmarked(t *testing.T, n int) {
	t.Helper()
	if s, e := note.Mark(n); s != "" || e != api.ErrRange {
		t.Errorf("mark of %d: %q, %v", n, s, e)
	}
}

// described tells whether a text has the paragraph that the chapter names.
func described(t *testing.T, text string) {
	t.Helper()
	if p := note.Para(text); !samePara(p, paraOf(text)) {
		t.Errorf("paragraph of %q: %v", text, p)
	}
}

// many is so many lines, each other than all others.
func many(n int) []api.Line {
	l := make([]api.Line, n)
	for i := range l {
		l[i] = ln(2*i, 2*i+2, 13, i)
	}
	return l
}

// TestExamples: the chapter's table, row by row.
func TestExamples(t *testing.T) {
	laid(t, "ab cd", 27, ln(0, 3, 13, 10), ln(3, 5, 13, 10))
	l, _ := note.Lay("ab cd", 27)
	if h := note.Height(l); len(l) != 2 || h != 20 {
		t.Fatal(l, h)
	}
	split(t, l, 10, l[:1], l[1:])
	split(t, l, 19, l[:1], l[1:])
	split(t, l, 20, l, nil)
	marked(t, 12, "12")
	unmarked(t, 0)
	unlaid(t, "\t", 20, api.ErrBytes)
	laid(t, "", 20, ln(0, 0, 6, 0))
}

// TestPara: P18.1, of no bytes, of one, of many, and of texts that may not be.
func TestPara(t *testing.T) {
	if p := note.Para(""); len(p.Spans) != 0 || p.Text != "" {
		t.Error(p)
	}
	p := note.Para("ab c")
	if p.Text != "ab c" || !slices.Equal(p.Spans, []api.Span{{Len: 4}}) || p.P != (api.Props{Size: 8, Pitch: 10, In: 14, Orphan: 1, Widow: 1}) || p.Label != "" || len(p.Marks) != 0 {
		t.Error(p)
	}
	for _, text := range []string{"", "a", " ", "~", "ab cd", strings.Repeat("a ", 2048)} {
		described(t, text)
	}
	for _, text := range []string{"\x00", "\x01\x02\x03\x04", "\t", "a\nb", "\x1f", "\x7f", "\x80\xff", "\u00e9\u20ac", strings.Repeat("a", 4097), strings.Repeat("\n", 4097), strings.Repeat("W", 1<<17)} {
		described(t, text)
	}
	for b := range 256 {
		described(t, string([]byte{byte(b)}))
	}
	for n := range 300 {
		described(t, strings.Repeat("i", n))
	}
}

// TestMark: P18.1 and P11, the digits of all numbers from 1 to 99,999, and of none beside these.
func TestMark(t *testing.T) {
	marked(t, 1, "1")
	marked(t, 9, "9")
	marked(t, 10, "10")
	marked(t, 99, "99")
	marked(t, 100, "100")
	marked(t, 4096, "4096")
	marked(t, 9999, "9999")
	marked(t, 10000, "10000")
	marked(t, 65536, "65536")
	marked(t, 99999, "99999")
	for n := 1; n <= 99999; n++ {
		marked(t, n, strconv.Itoa(n))
	}
	for _, n := range []int{0, -1, -2, -9, -10, 100000, 100001, 999999} {
		unmarked(t, n)
	}
	for _, n := range far {
		unmarked(t, n)
	}
}

// TestTextsThatMayNotBe: P18.1, each byte that no note has, ahead, behind, within and alone.
func TestTextsThatMayNotBe(t *testing.T) {
	for b := range 256 {
		c := string([]byte{byte(b)})
		for _, text := range []string{c, "ab" + c, c + "ab", "a" + c + "b", "a " + c, strings.Repeat("a", 4095) + c, c + strings.Repeat("a", 4095)} {
			if b >= 32 && b <= 126 {
				if _, e := note.Lay(text, 100); e != api.OK {
					t.Errorf("%q: %v", text, e)
				}
				continue
			}
			unlaid(t, text, 100, api.ErrBytes)
		}
	}
	for _, text := range []string{"\x1f", "\x7f", "\n", "\t", "\x01", "\x02", "\x03", "\x04", "\x00", "\u00e9", "a\u00a0b", "\xff"} {
		unlaid(t, text, 0, api.ErrBytes)
		unlaid(t, text, 4095, api.ErrBytes)
	}
	laid(t, " ", 20, ln(0, 1, 6, 0))
	laid(t, "~", 20, ln(0, 1, 6, 3))
}

// TestLongTexts: P18.1 and P11, 4,096 bytes, and more.
func TestLongTexts(t *testing.T) {
	for _, text := range []string{strings.Repeat("a", 4096), strings.Repeat(" ", 4096), strings.Repeat("a ", 2048), strings.Repeat("~-", 2048)} {
		for _, w := range []int{0, 14, 19, 300, 4095} {
			compare(t, text, w)
			compare(t, text[1:], w)
			unlaid(t, text+"a", w, api.ErrLong)
			unlaid(t, text+text, w, api.ErrLong)
		}
	}
	for _, n := range []int{4097, 4098, 8192, 1 << 16, 1<<16 + 1, 1 << 20} {
		unlaid(t, strings.Repeat("a", n), 100, api.ErrLong)
	}
	laid(t, strings.Repeat("W", 4096), 4095, widely(0, 4096, 4081, 32768))
	laid(t, strings.Repeat(" ", 4096), 4095, ln(0, 4096, 4081, 0))
}

// TestWidths: P18.1 and P11, a column at its least and greatest, at the note's indent, and beyond.
func TestWidths(t *testing.T) {
	for _, text := range []string{"", "a", "ab cd", strings.Repeat("a ", 2048)} {
		for _, w := range noWidths {
			unlaid(t, text, w, api.ErrRange)
		}
		for _, w := range []int{0, 1, 4094, 4095} {
			compare(t, text, w)
		}
	}
	for w := range 15 {
		laid(t, "", w, ln(0, 0, 0, 0))
		laid(t, " ", w, ln(0, 1, 0, 0))
		laid(t, "a b", w, widely(0, 2, 0, 5), widely(2, 3, 0, 5))
	}
	laid(t, "", 15, ln(0, 0, 1, 0))
	laid(t, "a b", 15, widely(0, 2, 1, 5), widely(2, 3, 1, 5))
	laid(t, "a b", 18, widely(0, 2, 4, 5), widely(2, 3, 4, 5))
	laid(t, "a b", 19, ln(0, 2, 5, 5), ln(2, 3, 5, 5))
	laid(t, "a b", 4094, ln(0, 3, 4080, 13))
	laid(t, "a b", 4095, ln(0, 3, 4081, 13))
}

// TestOrderOfErrors: P18.1 and rule 1, a text that is too long is told ahead of one with other bytes, both ahead of a column that is out of its bounds.
func TestOrderOfErrors(t *testing.T) {
	for _, w := range slices.Concat(noWidths, []int{0, 14, 100, 4095}) {
		unlaid(t, strings.Repeat("a", 4097), w, api.ErrLong)
		unlaid(t, strings.Repeat("\n", 4097), w, api.ErrLong)
		unlaid(t, "\x00"+strings.Repeat("a", 4096), w, api.ErrLong)
		unlaid(t, strings.Repeat("a", 4096)+"\x7f", w, api.ErrLong)
		unlaid(t, strings.Repeat("a", 4095)+"\x7f", w, api.ErrBytes)
		unlaid(t, strings.Repeat("\n", 4096), w, api.ErrBytes)
		unlaid(t, "\x1f", w, api.ErrBytes)
	}
}

// TestWords: P18.1, texts of no bytes, of one word, of several words that fill one line, two, and many.
func TestWords(t *testing.T) {
	laid(t, "", 100, ln(0, 0, 86, 0))
	laid(t, "a", 100, ln(0, 1, 86, 5))
	laid(t, "Wim", 31, ln(0, 3, 17, 17))
	laid(t, "a b c", 35, ln(0, 5, 21, 21))
	laid(t, "a b c", 36, ln(0, 5, 22, 21))
	laid(t, "a b c", 34, ln(0, 4, 20, 13), ln(4, 5, 20, 5))
	laid(t, "a b c", 27, ln(0, 4, 13, 13), ln(4, 5, 13, 5))
	laid(t, "a b c", 26, ln(0, 2, 12, 5), ln(2, 4, 12, 5), ln(4, 5, 12, 5))
	l := slices.Repeat([]api.Line{{}}, 2048)
	for n := range l {
		l[n] = ln(2*n, 2*n+2, 5, 5)
	}
	laid(t, strings.Repeat("a ", 2048), 19, l...)
}

// TestBlanks: P18.1, blanks ahead, behind and several together, and nothing else.
func TestBlanks(t *testing.T) {
	laid(t, "   ", 14, ln(0, 3, 0, 0))
	laid(t, "   ", 100, ln(0, 3, 86, 0))
	laid(t, "  a", 100, ln(0, 3, 86, 5))
	laid(t, "  a", 19, ln(0, 3, 5, 5))
	laid(t, "a  ", 100, ln(0, 3, 86, 5))
	laid(t, "a  ", 19, ln(0, 3, 5, 5))
	laid(t, "a   b", 33, ln(0, 5, 19, 19))
	laid(t, "a   b", 32, ln(0, 4, 18, 5), ln(4, 5, 18, 5))
	laid(t, "  a  b  ", 19, ln(0, 5, 5, 5), ln(5, 8, 5, 5))
}

// TestWideWords: P18.1, a word that is wider than its column is told as Wide, and stands alone in its line; hyphens part words, patterns do not.
func TestWideWords(t *testing.T) {
	laid(t, "Wim", 30, widely(0, 3, 16, 17))
	laid(t, "a Wim i", 30, ln(0, 2, 16, 5), widely(2, 6, 16, 17), ln(6, 7, 16, 2))
	laid(t, "a-b", 27, ln(0, 3, 13, 13))
	laid(t, "a-b", 26, ln(0, 2, 12, 8), ln(2, 3, 12, 5))
	laid(t, "hyphenation", 14, widely(0, 11, 0, wide("hyphenation")))
	laid(t, "hyphenation", 14+wide("hyphenation"), ln(0, 11, wide("hyphenation"), wide("hyphenation")))
}

// TestLinesAreThoseOfTheParagraph: P18.1, the lines are those of the note's paragraph by para, without slots.
func TestLinesAreThoseOfTheParagraph(t *testing.T) {
	roll := chance(22)
	for range 200 {
		text, w := mixed(roll, roll(200)), roll(300)
		l, e := note.Lay(text, w)
		must, f := para.Lay(note.Para(text), nil, api.Slot{X: 0, W: w})
		if !slices.Equal(l, must) || e != api.OK || f != api.OK {
			t.Errorf("%q in %d: %v, %v, not %v, %v", text, w, l, e, must, f)
		}
	}
}

// TestHeight: P18.2, of no lines, of one, of many, whatever they are.
func TestHeight(t *testing.T) {
	if h := note.Height(nil); h != 0 {
		t.Error(h)
	}
	if h := note.Height([]api.Line{}); h != 0 {
		t.Error(h)
	}
	roll := chance(23)
	for _, n := range []int{1, 2, 3, 9, 10, 100, 4096, 5000, 1 << 16} {
		if h := note.Height(many(n)); h != 10*n {
			t.Errorf("%d lines: %d", n, h)
		}
		if h := note.Height(anyLines(roll, n)); h != 10*n {
			t.Errorf("%d lines: %d", n, h)
		}
	}
	for text, must := range map[string]int{"": 10, "a": 10, "a b": 20, "a b c": 30} {
		l, _ := note.Lay(text, 19)
		if h := note.Height(l); h != must {
			t.Errorf("%q: %d, not %d", text, h, must)
		}
	}
}

// TestSplit: P18.2, by nothing, by what is beside a line's height, by the height of all lines, beside it, and by more.
func TestSplit(t *testing.T) {
	for _, n := range []int{1, 2, 3, 7, 10, 100, 5000} {
		l := many(n)
		for _, h := range []int{0, 1, 9} {
			split(t, l, h, nil, l)
		}
		for _, h := range []int{10, 11, 19} {
			split(t, l, h, l[:1], l[1:])
		}
		split(t, l, 10*n-1, l[:n-1], l[n-1:])
		for _, h := range []int{10 * n, 10*n + 1, 10*n + 9, 10*n + 10, 10*n + 11, 1 << 16, 1 << 20, math.MaxInt32, 1 << 32, 1<<32 + 10, math.MaxInt - 1, math.MaxInt} {
			split(t, l, h, l, nil)
		}
	}
	l := many(300)
	split(t, l, 2559, l[:255], l[255:])
	split(t, l, 2560, l[:256], l[256:])
	split(t, l, 2570, l[:257], l[257:])
}

// TestSplitOfNoLines: P18.2, no lines have two parts of no lines.
func TestSplitOfNoLines(t *testing.T) {
	for _, l := range [][]api.Line{nil, {}, many(3)[:0]} {
		for _, h := range []int{0, 1, 9, 10, 11, 100, math.MaxInt} {
			split(t, l, h, nil, nil)
		}
	}
}

// TestSplitBelow: P18.2 and P11, a height below 0 is refused, whatever the lines are.
func TestSplitBelow(t *testing.T) {
	for _, l := range [][]api.Line{nil, {}, many(1), many(2), many(100)} {
		for _, h := range []int{-1, -2, -9, -10, -11, -100, -1 << 16, math.MinInt32, math.MinInt32 - 1, -1 << 32, 10 - 1<<32, math.MinInt + 1, math.MinInt} {
			unsplit(t, l, h)
		}
		split(t, l, 0, nil, l)
	}
}

// TestListsStayAsTheyWere: rule 4, a list that is handed in is not changed, and its spare room neither read nor written, nor what stands ahead of it in its memory.
func TestListsStayAsTheyWere(t *testing.T) {
	all := many(9)
	was := slices.Clone(all)
	l := all[2:5]
	for h := -30; h < 130; h++ {
		note.Split(l, h)
		note.Split(all[2:2], h)
	}
	if h := note.Height(l); h != 30 {
		t.Error(h)
	}
	split(t, l, 20, was[2:4], was[4:5])
	split(t, l, 90, was[2:5], nil)
	split(t, all[2:2], 90, nil, nil)
	if !slices.Equal(all, was) {
		t.Errorf("%v have become %v", was, all)
	}
}

// TestListsAreNotLookedAtLater: rule 4, what was answered stays, though the list that was handed in is written over.
func TestListsAreNotLookedAtLater(t *testing.T) {
	for h := range 45 {
		l := many(3)
		a, b, _ := note.Split(l, h)
		for i := range l {
			l[i] = ln(-9, -9, -9, -9)
		}
		first, others := splitOf(many(3), h)
		if !slices.Equal(a, first) || !slices.Equal(b, others) {
			t.Error(h, a, b)
		}
	}
}

// spend writes over lines, their spare room too.
func spend(l []api.Line) {
	for i := range l[:cap(l)] {
		l[:cap(l)][i] = ln(-9, -9, -9, -9)
	}
}

// TestPartsMayBeWrittenOver: rule 4, the parts of a split are new memory, their spare room too, and share none with each other, with the lines, or with other answers.
func TestPartsMayBeWrittenOver(t *testing.T) {
	for n := range 12 {
		for h := range 10*n + 12 {
			l := many(n + 3)[:n]
			first, others := splitOf(many(n), h)
			a, b, _ := note.Split(l, h)
			c, d, _ := note.Split(l, h)
			spend(a)
			if !slices.Equal(b, others) || !slices.Equal(l[:n+3], many(n+3)) {
				t.Fatal("the first part shares memory", n, h)
			}
			spend(b)
			if !slices.Equal(c, first) || !slices.Equal(d, others) || !slices.Equal(l[:n+3], many(n+3)) {
				t.Fatal("the other part shares memory", n, h)
			}
			spend(d)
			if !slices.Equal(c, first) {
				t.Fatal("the other part shares memory with the first", n, h)
			}
		}
	}
}

// TestAppendToParts: rule 4, lines that are put behind a part change neither the other one nor the lines that were split.
func TestAppendToParts(t *testing.T) {
	for n := range 12 {
		for h := range 10*n + 12 {
			l := many(n + 3)[:n]
			first, others := splitOf(many(n), h)
			a, b, _ := note.Split(l, h)
			more := append(a, ln(-1, -1, -1, -1), ln(-2, -2, -2, -2))
			behind := append(b, ln(-3, -3, -3, -3))
			if !slices.Equal(a, first) || !slices.Equal(b, others) || !slices.Equal(l[:n+3], many(n+3)) {
				t.Fatal("an append reached other lines", n, h, a, b)
			}
			if len(more) != len(first)+2 || more[len(first)] != ln(-1, -1, -1, -1) || len(behind) != len(others)+1 {
				t.Fatal(n, h, more, behind)
			}
		}
	}
}

// TestAnswersMayBeWrittenOver: rule 4, lines and paragraphs are new memory, their spare room too.
func TestAnswersMayBeWrittenOver(t *testing.T) {
	for _, text := range []string{"", "a", "ab cd", strings.Repeat("a ", 100)} {
		for _, w := range []int{0, 19, 27, 4095} {
			a, _ := note.Lay(text, w)
			b, _ := note.Lay(text, w)
			spend(a)
			if !slices.Equal(b, linesOf(text, w)) {
				t.Errorf("%q: answers share memory", text)
			}
			compare(t, text, w)
		}
		p, q := note.Para(text), note.Para(text)
		for i := range p.Spans[:cap(p.Spans)] {
			p.Spans[:cap(p.Spans)][i].Len = -9
		}
		if !samePara(q, paraOf(text)) {
			t.Errorf("%q: paragraphs share memory", text)
		}
		described(t, text)
		compare(t, text, 27)
	}
}

// TestNothingIsKept: P1, what a call answers depends on its arguments alone: calls in whatever order answer the same.
func TestNothingIsKept(t *testing.T) {
	all := []string{"", "a", "ab cd", "\t", strings.Repeat("a", 4097), "Wim a-b", strings.Repeat("a ", 60)}
	must := make([][]api.Line, len(all))
	errors := make([]api.Errno, len(all))
	for i, text := range all {
		must[i], errors[i] = note.Lay(text, 33)
	}
	roll := chance(24)
	for range 500 {
		i, j := roll(len(all)), roll(len(all))
		l, _ := note.Lay(all[j], roll(60)-3)
		note.Para(all[j])
		note.Mark(roll(20) - 5)
		note.Split(l, roll(90)-5)
		note.Height(l)
		if l, e := note.Lay(all[i], 33); !slices.Equal(l, must[i]) || e != errors[i] {
			t.Fatal(i, l, e)
		}
		described(t, all[i])
	}
}

// TestSideBySide: P1, calls on one list from several goroutines answer the same.
func TestSideBySide(t *testing.T) {
	l := many(9)
	var all sync.WaitGroup
	for i := range 8 {
		all.Go(func() {
			for n := range 30 {
				w := 10*n + i
				if l, e := note.Lay("a bb i Wim", w); !slices.Equal(l, linesOf("a bb i Wim", w)) || e != api.OK {
					t.Error(l, e)
				}
				first, others := splitOf(many(9), w)
				split(t, l, w, first, others)
				marked(t, w+1, strconv.Itoa(w+1))
				described(t, "a bb")
			}
		})
	}
	all.Wait()
}
