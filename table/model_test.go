package table_test

import (
	"reflect"
	"slices"
	"strings"
	"testing"

	"quire/api"
	"quire/grid"
	"quire/table"
)

// chance tells numbers that look like chance, the same ones each time.
func chance(seed uint32) func(n int) int {
	return func(n int) int {
		seed = seed*1664525 + 1013904223
		return int(seed>>8) % n
	}
}

// eighths are the bytes of each em, as the model has them: of size 8 a byte is as wide as its em.
func eighths() map[int]string {
	return map[int]string{
		2: "ijl'.,:;!|",
		3: "ftr()[]{}-\"^_~` I",
		7: "mw",
		8: "MW",
		5: "abcdeghknopqsuvxyz0123456789",
		6: "ABCDEFGHJKLNOPQRSTUVXYZ#$%&*+/<=>?@\\",
	}
}

// ems are the ems of all bytes.
var ems = func() (out [256]int) {
	for em, bytes := range eighths() {
		for i := range len(bytes) {
			out[bytes[i]] = em
		}
	}
	return out
}()

// wide tells how wide a text is in a cell, as the model has it: byte by byte, accents behind a letter left out, two at most.
func wide(text string) int {
	sum, accents := 0, 2
	for i := range len(text) {
		c := text[i]
		if strings.IndexByte("^`~", c) >= 0 && accents < 2 {
			accents++
			continue
		}
		accents = 2
		if c >= 'a' && c <= 'z' || c >= 'A' && c <= 'Z' {
			accents = 0
		}
		sum += ems[c]
	}
	return sum
}

// mayEnd tells whether a line may end ahead of a byte above 0: at the first blank behind a word, behind a hyphen within a word, at the end.
func mayEnd(text string, at int) bool {
	if at == len(text) {
		return true
	}
	if text[at] == ' ' {
		return text[at-1] != ' '
	}
	return text[at] != '-' && text[at-1] == '-' && at > 1 && text[at-2] != ' '
}

// skip tells where the first byte from a place on is that is no blank.
func skip(text string, at int) int {
	for at < len(text) && text[at] == ' ' {
		at++
	}
	return at
}

// fill tells where a line that begins with a byte that is no blank ends, and how wide it is, as the model has it.
func fill(text string, a, w int) (end, natural int) {
	for b := a + 1; b <= len(text); b++ {
		if !mayEnd(text, b) {
			continue
		}
		n := wide(strings.TrimRight(text[a:b], " "))
		if end > 0 && n > w {
			break
		}
		end, natural = b, n
		if n > w {
			break
		}
	}
	return end, natural
}

// linesOf tells the lines of a text in a slot, as the model has them.
func linesOf(text string, x, w int) []api.Line {
	var out []api.Line
	from := 0
	for a := skip(text, 0); ; {
		l := api.Line{From: from, To: len(text), X: x, W: w}
		if a < len(text) {
			var end int
			end, l.Natural = fill(text, a, w)
			a = skip(text, end)
			l.To = a
		}
		if l.Natural > w {
			l.Flag = 1
		}
		out = append(out, l)
		from = l.To
		if a == len(text) {
			return out
		}
	}
}

// rowsOf tells a table's rows, as the model has them: cell by cell.
func rowsOf(t api.Table, w int) []api.Row {
	widths, _, _ := grid.Widths(t, w)
	var out []api.Row
	for i, text := range t.Cells {
		col := i % t.Cols
		if col == 0 {
			out = append(out, api.Row{})
		}
		x := 0
		for _, ahead := range widths[:col] {
			x += ahead
		}
		c := api.CellLines{X: x, W: widths[col], Lines: linesOf(text, x+2, max(0, widths[col]-4))}
		r := &out[len(out)-1]
		r.Cells = append(r.Cells, c)
		for r.H < 4+10*len(c.Lines) {
			if r.H > 0 {
				r.Splits = append(r.Splits, r.H-2)
			}
			r.H = max(r.H+10, 14)
		}
	}
	return out
}

// between tells what stands between two heights, as the model has it: height by height.
func between(r api.Row, from, to int) []api.CellLines {
	out := slices.Clone(r.Cells)
	for i, c := range out {
		out[i].Lines = nil
		for y := from; y < to; y++ {
			if n := (y - 2) / 10; y == 2+10*n && n >= 0 && n < len(c.Lines) {
				out[i].Lines = append(out[i].Lines, c.Lines[n])
			}
		}
	}
	return out
}

// sameCells tells whether two lists of cells are the same.
func sameCells(a, b []api.CellLines) bool {
	return slices.EqualFunc(a, b, func(c, d api.CellLines) bool {
		return c.X == d.X && c.W == d.W && slices.Equal(c.Lines, d.Lines)
	})
}

// sameRows tells whether two lists of rows are the same.
func sameRows(a, b []api.Row) bool {
	return slices.EqualFunc(a, b, func(r, s api.Row) bool {
		return r.H == s.H && slices.Equal(r.Splits, s.Splits) && sameCells(r.Cells, s.Cells)
	})
}

// compare holds a table that may be, in a room that may be, against the model, and against what follows.
func compare(t *testing.T, x api.Table, w int) {
	t.Helper()
	must := rowsOf(x, w)
	l, e := table.Rows(x, w)
	if !sameRows(l, must) || e != api.OK {
		t.Fatalf("rows of %q in %d columns for %d: %v, %v, not %v", x.Cells, x.Cols, w, l, e, must)
	}
	high := 0
	for i, r := range l {
		high += r.H
		follows(t, r, x.Cells[i*x.Cols:(i+1)*x.Cols])
	}
	if h, e := table.Height(x, w); h != high || e != api.OK {
		t.Fatalf("height of %q in %d columns for %d: %d, %v, not %d", x.Cells, x.Cols, w, h, e, high)
	}
}

// follows tells whether a row is what the chapter says that follows.
func follows(t *testing.T, r api.Row, texts []string) {
	t.Helper()
	x, most := 0, 0
	for i, c := range r.Cells {
		if c.X != x || c.W < 0 {
			t.Errorf("%q: a cell at %d, %d wide, behind %d", texts, c.X, c.W, x)
		}
		x += c.W
		most = max(most, len(c.Lines))
		at := 0
		for _, l := range c.Lines {
			if l.From != at || l.To < at || l.X < c.X || l.W > c.W || l.Flag == 0 && l.Natural > l.W {
				t.Errorf("%q: a line %v of a cell %v", texts, l, c)
			}
			at = l.To
		}
		if at != len(texts[i]) {
			t.Errorf("%q: lines up to %d of %q", texts, at, texts[i])
		}
	}
	if len(r.Splits) != most-1 {
		t.Errorf("%q: %d splits of %d lines", texts, len(r.Splits), most)
	}
	for _, s := range r.Splits {
		parts(t, r, s)
	}
}

// parts tells whether a row that is split at a height has all lines once, and whether each part holds its lines.
func parts(t *testing.T, r api.Row, at int) {
	t.Helper()
	a, e := table.Between(r, 0, at)
	b, f := table.Between(r, at, r.H)
	if e != api.OK || f != api.OK || len(a) != len(r.Cells) || len(b) != len(r.Cells) {
		t.Fatalf("split at %d: %v, %v, %v, %v", at, a, e, b, f)
	}
	for i, c := range r.Cells {
		if !slices.Equal(slices.Concat(a[i].Lines, b[i].Lines), c.Lines) {
			t.Errorf("split at %d: %v and %v of %v", at, a[i], b[i], c)
		}
		n := len(a[i].Lines)
		if n > 0 && 2+10*n > at || len(b[i].Lines) > 0 && (2+10*n < at || at+10*len(b[i].Lines) > r.H) {
			t.Errorf("split at %d of %d: %d and %d lines", at, r.H, n, len(b[i].Lines))
		}
	}
}

// TestModelItself: the model does as the chapter's examples say.
func TestModelItself(t *testing.T) {
	l := rowsOf(two(), 30)
	must := []api.Row{{H: 24, Splits: []int{12}, Cells: []api.CellLines{
		{X: 0, W: 16, Lines: []api.Line{{From: 0, To: 3, X: 2, W: 12, Natural: 10}, {From: 3, To: 4, X: 2, W: 12, Natural: 5}}},
		{X: 16, W: 14, Lines: []api.Line{{From: 0, To: 2, X: 18, W: 10, Natural: 10}}},
	}}}
	if !reflect.DeepEqual(l, must) {
		t.Error(l)
	}
	if a := between(l[0], 0, 12); len(a[0].Lines) != 1 || len(a[1].Lines) != 1 || a[0].Lines[0].To != 3 {
		t.Error(a)
	}
	if b := between(l[0], 12, 24); len(b[0].Lines) != 1 || len(b[1].Lines) != 0 || b[0].Lines[0].From != 3 {
		t.Error(b)
	}
	if n := wide("ab c"); n != 18 {
		t.Error(n)
	}
}

// texts makes all texts of up to so many of these bytes.
func texts(bytes string, most int) []string {
	out := []string{""}
	for from := 0; most > 0; most-- {
		to := len(out)
		for _, ahead := range out[from:to] {
			for i := range len(bytes) {
				out = append(out, ahead+bytes[i:i+1])
			}
		}
		from = to
	}
	return out
}

// TestAllShortCells: P17.1 and P17.3, all texts of up to six bytes of a letter, an accent, a hyphen and a blank, in rooms from nothing to more than they need.
func TestAllShortCells(t *testing.T) {
	for _, text := range texts("a~- ", 6) {
		for _, w := range []int{0, 3, 4, 5, 6, 9, 12, 17, 20, 25, 40} {
			compare(t, api.Table{Cols: 1, Cells: []string{text}}, w)
		}
	}
}

// TestAllShortTables: P17.1 and P17.3, all tables of a row of three short cells, and of two rows of two, for rooms from nothing to more than they need.
func TestAllShortTables(t *testing.T) {
	some := []string{"", "i", "m i", "W", "i j l", " "}
	for _, a := range some {
		for _, b := range some {
			for _, c := range some {
				for w := 0; w < 44; w += 1 + w%3 {
					compare(t, api.Table{Cols: 3, Cells: []string{a, b, c}}, w)
					compare(t, api.Table{Cols: 2, Cells: []string{a, b, c, a}}, w)
					compare(t, api.Table{Cols: 1, Cells: []string{a, b, c}}, w)
				}
			}
		}
	}
}

// mixed makes a text of a cell.
func mixed(roll func(n int) int) string {
	n := []int{0, roll(6), roll(40), 195 + roll(6)}[roll(4)]
	blanks := 1 + roll(8)
	var out []byte
	for len(out) < n {
		c := byte(32 + roll(95))
		switch {
		case roll(blanks) == 0:
			c = ' '
		case roll(6) == 0:
			c = "^`~-"[roll(4)]
		}
		out = append(out, c)
	}
	return string(out)
}

// TestModel: P17.1 to P17.3, many tables with many rooms.
func TestModel(t *testing.T) {
	roll := chance(17)
	for range 150 {
		x := api.Table{Cols: 1 + roll(8)}
		for range x.Cols * (1 + roll([]int{1, 3, 64 / x.Cols}[roll(3)])) {
			x.Cells = append(x.Cells, mixed(roll))
		}
		for _, w := range []int{roll(20), roll(200), roll(600), roll(4096), 4095} {
			compare(t, x, w)
		}
	}
}

// anyRow makes a row that no table need have: some lines, whatever they are, in a row of whatever height.
func anyRow(roll func(n int) int) api.Row {
	r := api.Row{H: roll(70)}
	for range roll(5) {
		c := api.CellLines{X: roll(99) - 50, W: roll(99) - 50}
		for range roll(9) {
			c.Lines = append(c.Lines, api.Line{From: roll(9), To: roll(9), X: roll(9), W: roll(9), Natural: roll(9), Hyphen: roll(2) == 0, Flag: roll(4)})
		}
		r.Cells = append(r.Cells, c)
	}
	for range roll(5) {
		r.Splits = append(r.Splits, roll(99)-50)
	}
	return r
}

// TestBetweenModel: P17.2, rows as no table has them, between all heights.
func TestBetweenModel(t *testing.T) {
	roll := chance(18)
	for range 60 {
		r := anyRow(roll)
		for from := -3; from < r.H+3; from++ {
			for to := from - 2; to < r.H+3; to++ {
				if from < 0 || from > to || to > r.H {
					outside(t, r, from, to)
					continue
				}
				stands(t, r, from, to, between(r, from, to)...)
			}
		}
	}
}
