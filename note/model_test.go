package note_test

import (
	"reflect"
	"slices"
	"strings"
	"testing"

	"quire/api"
	"quire/note"
)

// chance tells numbers that look like chance, the same ones each time.
func chance(seed uint32) func(n int) int {
	return func(n int) int {
		seed = seed*1664525 + 1013904223
		return int(seed>>8) % n
	}
}

// eighths are the bytes of each em, as the model has them: of size 8 a byte is as wide as its em.
func eighths() map[int]string {
	return map[int]string{
		2: "ijl'.,:;!|",
		3: "ftr()[]{}-\"^_~` I",
		7: "mw",
		8: "MW",
		5: "abcdeghknopqsuvxyz0123456789",
		6: "ABCDEFGHJKLNOPQRSTUVXYZ#$%&*+/<=>?@\\",
	}
}

// ems are the ems of all bytes.
var ems = func() (out [256]int) {
	for em, bytes := range eighths() {
		for i := range len(bytes) {
			out[bytes[i]] = em
		}
	}
	return out
}()

// wide tells how wide a text is in a note, as the model has it: byte by byte, accents behind a letter left out, two at most.
func wide(text string) int {
	sum, accents := 0, 2
	for i := range len(text) {
		c := text[i]
		if strings.IndexByte("^`~", c) >= 0 && accents < 2 {
			accents++
			continue
		}
		accents = 2
		if c >= 'a' && c <= 'z' || c >= 'A' && c <= 'Z' {
			accents = 0
		}
		sum += ems[c]
	}
	return sum
}

// mayEnd tells whether a line may end ahead of a byte above 0: at the first blank behind a word, behind a hyphen within a word, at the end.
func mayEnd(text string, at int) bool {
	if at == len(text) {
		return true
	}
	if text[at] == ' ' {
		return text[at-1] != ' '
	}
	return text[at] != '-' && text[at-1] == '-' && at > 1 && text[at-2] != ' '
}

// skip tells where the first byte from a place on is that is no blank.
func skip(text string, at int) int {
	for at < len(text) && text[at] == ' ' {
		at++
	}
	return at
}

// fill tells where a line that begins with a byte that is no blank ends, and how wide it is, as the model has it.
func fill(text string, a, w int) (end, natural int) {
	for b := a + 1; b <= len(text); b++ {
		if !mayEnd(text, b) {
			continue
		}
		n := wide(strings.TrimRight(text[a:b], " "))
		if end > 0 && n > w {
			break
		}
		end, natural = b, n
		if n > w {
			break
		}
	}
	return end, natural
}

// linesOf tells the lines of a note's text, as the model has them: 14 of the column are left free.
func linesOf(text string, column int) []api.Line {
	w := column - 14
	if w < 0 {
		w = 0
	}
	var out []api.Line
	from := 0
	for a := skip(text, 0); ; {
		l := api.Line{From: from, To: len(text), X: 14, W: w}
		if a < len(text) {
			var end int
			end, l.Natural = fill(text, a, w)
			a = skip(text, end)
			l.To = a
		}
		if l.Natural > w {
			l.Flag = 1
		}
		out = append(out, l)
		from = l.To
		if a == len(text) {
			return out
		}
	}
}

// splitOf splits lines, as the model has it: line by line, as long as there is room for one more.
func splitOf(l []api.Line, h int) (first, others []api.Line) {
	for _, x := range l {
		if h >= 10 {
			first = append(first, x)
			h -= 10
			continue
		}
		h = 0
		others = append(others, x)
	}
	return first, others
}

// paraOf tells a note's paragraph, as the model has it.
func paraOf(text string) api.Para {
	p := api.Para{Text: text}
	p.P.Size, p.P.Pitch, p.P.In, p.P.Orphan, p.P.Widow = 8, 10, 14, 1, 1
	if len(text) > 0 {
		p.Spans = []api.Span{{Len: len(text)}}
	}
	return p
}

// samePara tells whether two paragraphs are the same; a list that is nil is as one that is empty.
func samePara(a, b api.Para) bool {
	return a.Text == b.Text && slices.Equal(a.Spans, b.Spans) && a.P == b.P && a.Label == b.Label && slices.Equal(a.Marks, b.Marks)
}

// compare holds the lines of a text that may be, in a column that may be, against the model, and against what follows.
func compare(t *testing.T, text string, w int) {
	t.Helper()
	must := linesOf(text, w)
	l, e := note.Lay(text, w)
	if !slices.Equal(l, must) || e != api.OK {
		t.Fatalf("lines of %q in %d: %v, %v, not %v", text, w, l, e, must)
	}
	if h := note.Height(l); h != 10*len(must) {
		t.Fatalf("height of %q in %d: %d, not %d", text, w, h, 10*len(must))
	}
	follows(t, text, l)
}

// follows tells whether a note's lines are what the chapter says that follows.
func follows(t *testing.T, text string, l []api.Line) {
	t.Helper()
	var all strings.Builder
	for _, x := range l {
		all.WriteString(text[x.From:x.To])
		if x.Flag == 0 && x.Natural > x.W || x.Flag != 0 && x.Flag != api.Wide || x.Hyphen {
			t.Errorf("%q: a line %v", text, x)
		}
	}
	if all.String() != text {
		t.Errorf("%q: %q in lines", text, all.String())
	}
	for _, h := range []int{0, 9, 10, 11, 25, 10*len(l) - 1, 10 * len(l), 10*len(l) + 1} {
		parts(t, l, h)
	}
}

// parts tells whether lines that are split are all there, and the first part as high as can be.
func parts(t *testing.T, l []api.Line, h int) {
	t.Helper()
	a, b, e := note.Split(l, h)
	if !slices.Equal(slices.Concat(a, b), l) || e != api.OK {
		t.Fatalf("%d lines, split by %d: %v, %v, %v", len(l), h, a, b, e)
	}
	if high := note.Height(a); high > h || len(b) > 0 && h-high >= 10 {
		t.Errorf("%d lines, split by %d: the first part is %d high", len(l), h, high)
	}
}

// TestModelItself: the model does as the chapter's words and examples say.
func TestModelItself(t *testing.T) {
	l := linesOf("ab cd", 27)
	must := []api.Line{{From: 0, To: 3, X: 14, W: 13, Natural: 10}, {From: 3, To: 5, X: 14, W: 13, Natural: 10}}
	if !reflect.DeepEqual(l, must) {
		t.Error(l)
	}
	for h, n := range map[int]int{0: 0, 9: 0, 10: 1, 19: 1, 20: 2, 30: 2} {
		if a, b := splitOf(l, h); len(a) != n || len(b) != 2-n {
			t.Error(h, a, b)
		}
	}
	if l := linesOf("", 20); !slices.Equal(l, []api.Line{{X: 14, W: 6}}) {
		t.Error(l)
	}
	if n := wide("ab c"); n != 18 {
		t.Error(n)
	}
}

// texts makes all texts of up to so many of these bytes.
func texts(bytes string, most int) []string {
	out := []string{""}
	for from := 0; most > 0; most-- {
		to := len(out)
		for _, ahead := range out[from:to] {
			for i := range len(bytes) {
				out = append(out, ahead+bytes[i:i+1])
			}
		}
		from = to
	}
	return out
}

// TestAllShortTexts: P18.1 and P18.3, all texts of up to six bytes of a letter, an accent, a hyphen and a blank, in columns from nothing to more than they need.
func TestAllShortTexts(t *testing.T) {
	for _, text := range texts("a~- ", 6) {
		for _, w := range []int{0, 13, 14, 16, 17, 19, 22, 25, 27, 30, 35, 50} {
			compare(t, text, w)
		}
	}
}

// mixed makes a note's text of so many bytes.
func mixed(roll func(n int) int, n int) string {
	blanks := 1 + roll(8)
	var out []byte
	for len(out) < n {
		c := byte(32 + roll(95))
		switch {
		case roll(blanks) == 0:
			c = ' '
		case roll(6) == 0:
			c = "^`~-"[roll(4)]
		}
		out = append(out, c)
	}
	return string(out)
}

// TestModel: P18.1 and P18.3, many texts in many columns.
func TestModel(t *testing.T) {
	roll := chance(18)
	for range 400 {
		text := mixed(roll, []int{roll(9), roll(60), roll(400)}[roll(3)])
		for _, w := range []int{roll(20), roll(60), roll(200), roll(4096)} {
			compare(t, text, w)
		}
	}
	for range 8 {
		text := mixed(roll, 4090+roll(7))
		for _, w := range []int{roll(40), roll(600), roll(4096), 4095} {
			compare(t, text, w)
		}
	}
}

// anyLines makes lines that no note need have.
func anyLines(roll func(n int) int, n int) []api.Line {
	var l []api.Line
	for range n {
		l = append(l, api.Line{From: roll(99) - 50, To: roll(99) - 50, X: roll(99) - 50, W: roll(99) - 50, Natural: roll(99) - 50, Hyphen: roll(2) == 0, Flag: roll(5) - 1})
	}
	return l
}

// TestSplitModel: P18.2 and P18.3, lines as no note has them, split by all heights.
func TestSplitModel(t *testing.T) {
	roll := chance(19)
	for n := range 24 {
		l := anyLines(roll, n)
		for h := range 10*n + 25 {
			a, b := splitOf(l, h)
			split(t, l, h, a, b)
			parts(t, l, h)
		}
	}
}

// TestPartAfterPart: P18.3, lines that are split with the heights of parts one behind the other are split as at once.
func TestPartAfterPart(t *testing.T) {
	roll := chance(20)
	for n := range 12 {
		l := anyLines(roll, n)
		for h := range 10*n + 15 {
			first, others, _ := note.Split(l, h)
			for more := range 10*n + 15 {
				second, last, _ := note.Split(others, more)
				a, b := splitOf(l, note.Height(first)+note.Height(second))
				split(t, l, note.Height(first)+note.Height(second), a, b)
				if !slices.Equal(slices.Concat(first, second), a) || !slices.Equal(last, b) {
					t.Fatal(n, h, more, first, second, last)
				}
			}
		}
	}
}

// TestManyParts: P18.3, a note that goes on from column to column has all its lines once, in order.
func TestManyParts(t *testing.T) {
	roll := chance(21)
	for range 100 {
		text := mixed(roll, roll(500))
		l, _ := note.Lay(text, 20+roll(100))
		var told []api.Line
		high := 0
		for left := l; len(left) > 0; {
			first, others, e := note.Split(left, roll(60))
			if e != api.OK {
				t.Fatal(e)
			}
			told, left = append(told, first...), others
			high += note.Height(first)
			a, b := splitOf(l, high)
			split(t, l, high, a, b)
			if !slices.Equal(told, a) || !slices.Equal(left, b) {
				t.Fatalf("%q: %v and %v, not %v and %v", text, told, left, a, b)
			}
		}
		if !slices.Equal(told, l) || high != note.Height(l) {
			t.Fatalf("%q: %v, %d high, not %v", text, told, high, l)
		}
	}
}
