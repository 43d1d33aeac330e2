package table_test

import (
	"math"
	"slices"
	"strings"
	"sync"
	"testing"

	"quire/api"
	"quire/grid"
	"quire/para"
	"quire/table"
)

// far is numbers that are out of all bounds.
var far = []int{math.MinInt, math.MinInt + 1, math.MinInt32 - 1, math.MinInt32, -1 << 16, -4096, -4095, -256, -255, -8, 1 << 16, 1<<16 + 1, math.MaxInt32, math.MaxInt32 + 1, 1 << 32, 1<<32 + 1, 1<<32 + 100, math.MaxInt - 1, math.MaxInt}

// noCols is numbers of columns that no table has.
var noCols = slices.Concat(far, []int{-2, -1, 0, 9, 10, 16, 64, 255, 256, 257, 258, 264})

// noRooms is numbers that are no rooms, with those beside the bounds.
var noRooms = slices.Concat(far, []int{-2, -1, 4096, 4097, 8190})

// two is the table of the chapter's examples.
func two() api.Table { return of(2, "ab c", "dd") }

// of makes a table of its cells.
func of(cols int, cells ...string) api.Table { return api.Table{Cols: cols, Cells: cells} }

// filled makes a table of so many cells of one text.
func filled(cols, n int, text string) api.Table {
	return of(cols, slices.Repeat([]string{text}, n)...)
}

// ln is a line that is not Wide.
func ln(from, to, x, w, natural int) api.Line {
	return api.Line{From: from, To: to, X: x, W: w, Natural: natural}
}

// widely is a line that is Wide.
func widely(from, to, x, w, natural int) api.Line {
	return api.Line{From: from, To: to, X: x, W: w, Natural: natural, Flag: api.Wide}
}

// cell is a cell of lines.
func cell(x, w int, l ...api.Line) api.CellLines { return api.CellLines{X: x, W: w, Lines: l} }

// row is a row of cells, of so many lines.
func row(lines int, cells ...api.CellLines) api.Row {
	r := api.Row{H: 4 + 10*lines, Cells: cells}
	for n := 1; n < lines; n++ {
		r.Splits = append(r.Splits, 2+10*n)
	}
	return r
}

// laid tells whether a table has these rows, and their height.
func laid(t *testing.T, x api.Table, w int, must ...api.Row) {
	t.Helper()
	if e := table.Check(x); e != api.OK {
		t.Errorf("check of %q: %v", x.Cells, e)
	}
	l, e := table.Rows(x, w)
	if !sameRows(l, must) || e != api.OK {
		t.Errorf("rows of %q in %d columns for %d: %v, %v, not %v", x.Cells, x.Cols, w, l, e, must)
	}
	high := 0
	for _, r := range must {
		high += r.H
	}
	if h, e := table.Height(x, w); h != high || e != api.OK {
		t.Errorf("height of %q in %d columns for %d: %d, %v, not %d", x.Cells, x.Cols, w, h, e, high)
	}
	compare(t, x, w)
}

// unlaid tells whether no rows and no height, but an error is told.
func unlaid(t *testing.T, x api.Table, w int, must api.Errno) {
	t.Helper()
	if l, e := table.Rows(x, w); len(l) != 0 || e != must {
		t.Errorf("rows of %d cells in %d columns for %d: %v, %v, not %v", len(x.Cells), x.Cols, w, l, e, must)
	}
	if h, e := table.Height(x, w); h != 0 || e != must {
		t.Errorf("height of %d cells in %d columns for %d: %d, %v, not %v", len(x.Cells), x.Cols, w, h, e, must)
	}
}

// may tells whether a table may be, by all calls.
func may(t *testing.T, x api.Table) {
	t.Helper()
	if e := table.Check(x); e != api.OK {
		t.Errorf("check of %d cells in %d columns: %v", len(x.Cells), x.Cols, e)
	}
	for _, w := range []int{0, 4095} {
		l, e := table.Rows(x, w)
		if len(l)*x.Cols != len(x.Cells) || e != api.OK {
			t.Errorf("rows of %d cells in %d columns for %d: %v, %v", len(x.Cells), x.Cols, w, l, e)
		}
		if h, e := table.Height(x, w); h < 14*len(l) || e != api.OK {
			t.Errorf("height of %d cells in %d columns for %d: %d, %v", len(x.Cells), x.Cols, w, h, e)
		}
	}
}

// refused tells whether a table may not be, by all calls, whatever the room is.
func refused(t *testing.T, x api.Table) {
	t.Helper()
	if e := table.Check(x); e != api.ErrArg {
		t.Errorf("check of %d cells in %d columns: %v", len(x.Cells), x.Cols, e)
	}
	for _, w := range []int{0, 100, 4095, -1, 4096, math.MinInt, math.MaxInt} {
		unlaid(t, x, w, api.ErrArg)
	}
}

// stands tells whether this stands between two heights of a row.
func stands(t *testing.T, r api.Row, from, to int, must ...api.CellLines) {
	t.Helper()
	if l, e := table.Between(r, from, to); !sameCells(l, must) || e != api.OK {
		t.Errorf("between %d and %d of %v: %v, %v, not %v", from, to, r, l, e, must)
	}
}

// outside tells whether heights are out of a row.
func outside(t *testing.T, r api.Row, from, to int) {
	t.Helper()
	if l, e := table.Between(r, from, to); len(l) != 0 || e != api.ErrRange {
		t.Errorf("between %d and %d of %d: %v, %v", from, to, r.H, l, e)
	}
}

// oneRow is the row of the chapter's examples.
func oneRow() api.Row {
	return row(2, cell(0, 16, ln(0, 3, 2, 12, 10), ln(3, 4, 2, 12, 5)), cell(16, 14, ln(0, 2, 18, 10, 10)))
}

// TestExamples: the chapter's table, row by row.
func TestExamples(t *testing.T) {
	laid(t, two(), 30, oneRow())
	l, _ := table.Rows(two(), 30)
	if len(l) != 1 || l[0].H != 24 || !slices.Equal(l[0].Splits, []int{12}) {
		t.Fatal(l)
	}
	if h, e := table.Height(two(), 30); h != 24 || e != api.OK {
		t.Error(h, e)
	}
	stands(t, l[0], 0, 12, cell(0, 16, ln(0, 3, 2, 12, 10)), cell(16, 14, ln(0, 2, 18, 10, 10)))
	stands(t, l[0], 12, 24, cell(0, 16, ln(3, 4, 2, 12, 5)), cell(16, 14))
	outside(t, l[0], 5, 3)
	unlaid(t, of(2, "a", "b", "c"), 30, api.ErrArg)
	unlaid(t, api.Table{}, 30, api.ErrArg)
}

// TestHowManyColumns: P17.1 and P11, from one to eight columns, and what is beside that.
func TestHowManyColumns(t *testing.T) {
	for cols := 1; cols <= 8; cols++ {
		for n := 1; n <= 64; n++ {
			if n%cols == 0 {
				may(t, filled(cols, n, "a b"))
			} else {
				refused(t, filled(cols, n, "a b"))
			}
		}
	}
	for _, cols := range noCols {
		for _, n := range []int{0, 1, 8, 9, 10, 16, 18, 45, 63, 64} {
			refused(t, filled(cols, n, "a b"))
		}
	}
}

// TestHowManyCells: P17.1 and P11, no cells, one row, as many as may be, more of them.
func TestHowManyCells(t *testing.T) {
	for cols := 1; cols <= 8; cols++ {
		refused(t, of(cols))
		refused(t, api.Table{Cols: cols, Cells: []string{}})
		may(t, filled(cols, cols, ""))
		may(t, filled(cols, 64/cols*cols, strings.Repeat("W", 200)))
		refused(t, filled(cols, 64/cols*cols+cols, ""))
		for _, n := range []int{65, 66, 70, 72, 128, 255, 256, 257, 264, 512, 840, 1 << 16} {
			refused(t, filled(cols, n, ""))
		}
	}
	may(t, of(1, ""))
	may(t, filled(8, 64, ""))
	refused(t, api.Table{})
}

// TestCellsThatMayNotBe: P17.1 and P11, cells that are too long, or have other bytes, at each place.
func TestCellsThatMayNotBe(t *testing.T) {
	for at := range 6 {
		for _, text := range []string{strings.Repeat("a", 200), strings.Repeat(" ", 200), "~", " ", ""} {
			x := filled(2, 6, "ab")
			x.Cells[at] = text
			may(t, x)
		}
		for _, text := range []string{strings.Repeat("a", 201), strings.Repeat(" ", 201), strings.Repeat("a", 4097), "\n", "\t", "a\x00", "\x1fa", "a\x7fb", "\x80", "\xff", "\u00e9", strings.Repeat("a", 201) + "\n"} {
			x := filled(2, 6, "ab")
			x.Cells[at] = text
			refused(t, x)
		}
	}
	for b := range 256 {
		x := of(1, string([]byte{'a', byte(b)}))
		if b >= 32 && b <= 126 {
			may(t, x)
		} else {
			refused(t, x)
		}
	}
}

// TestCheckIsThatOfGrid: P17.1, what grid tells of a table is told.
func TestCheckIsThatOfGrid(t *testing.T) {
	roll := chance(3)
	for range 400 {
		x := filled(roll(11)-1, roll(9)*roll(9), []string{"a b", "", "~ ", "\x00", strings.Repeat("b", 198+roll(5))}[roll(5)])
		if e := table.Check(x); e != grid.Check(x) {
			t.Errorf("%v: %v, not %v", x, e, grid.Check(x))
		}
	}
}

// TestRooms: P17.1 and P11, a room at its least and greatest, and beyond.
func TestRooms(t *testing.T) {
	for _, x := range []api.Table{two(), of(1, ""), filled(8, 64, "a b"), filled(8, 64, strings.Repeat("W", 200))} {
		for _, w := range noRooms {
			unlaid(t, x, w, api.ErrRange)
		}
		for _, w := range []int{0, 1, 4094, 4095} {
			compare(t, x, w)
		}
	}
}

// TestOrderOfErrors: P17.1 and rule 1, a table that may not be is told ahead of a room that is out of its bounds.
func TestOrderOfErrors(t *testing.T) {
	for _, x := range []api.Table{{}, of(2), of(0, "a"), filled(9, 9, "a"), of(2, "a"), filled(1, 65, ""), of(1, "\t"), of(1, strings.Repeat(" ", 201))} {
		for _, w := range noRooms {
			unlaid(t, x, w, api.ErrArg)
			unlaid(t, two(), w, api.ErrRange)
		}
		unlaid(t, x, 0, api.ErrArg)
		unlaid(t, x, 4095, api.ErrArg)
	}
}

// TestOneCell: P17.1, cells of no bytes, of one word, of several words that fill one line, two, and many.
func TestOneCell(t *testing.T) {
	laid(t, of(1, ""), 30, row(1, cell(0, 4, ln(0, 0, 2, 0, 0))))
	laid(t, of(1, "a"), 30, row(1, cell(0, 9, ln(0, 1, 2, 5, 5))))
	laid(t, of(1, "Wim"), 30, row(1, cell(0, 21, ln(0, 3, 2, 17, 17))))
	laid(t, of(1, "a b"), 30, row(1, cell(0, 17, ln(0, 3, 2, 13, 13))))
	laid(t, of(1, "a b c"), 24, row(2, cell(0, 24, ln(0, 4, 2, 20, 13), ln(4, 5, 2, 20, 5))))
	laid(t, of(1, "a b c"), 25, row(1, cell(0, 25, ln(0, 5, 2, 21, 21))))
	laid(t, of(1, "a b c"), 26, row(1, cell(0, 25, ln(0, 5, 2, 21, 21))))
	laid(t, of(1, "a b c"), 17, row(2, cell(0, 17, ln(0, 4, 2, 13, 13), ln(4, 5, 2, 13, 5))))
	laid(t, of(1, "a b c"), 16, row(3, cell(0, 16, ln(0, 2, 2, 12, 5), ln(2, 4, 2, 12, 5), ln(4, 5, 2, 12, 5))))
	laid(t, of(1, "a b c"), 9, row(3, cell(0, 9, ln(0, 2, 2, 5, 5), ln(2, 4, 2, 5, 5), ln(4, 5, 2, 5, 5))))
	many := slices.Collect(func(yield func(api.Line) bool) {
		for n := range 100 {
			if !yield(ln(2*n, 2*n+2, 2, 5, 5)) {
				return
			}
		}
	})
	laid(t, of(1, strings.Repeat("a ", 100)), 9, row(100, cell(0, 9, many...)))
}

// TestBlanks: P17.1, blanks ahead, behind and several together, and nothing else.
func TestBlanks(t *testing.T) {
	laid(t, of(1, " "), 30, row(1, cell(0, 7, ln(0, 1, 2, 3, 0))))
	laid(t, of(1, "   "), 4, row(1, cell(0, 4, ln(0, 3, 2, 0, 0))))
	laid(t, of(1, "  a"), 30, row(1, cell(0, 15, ln(0, 3, 2, 11, 5))))
	laid(t, of(1, "  a"), 9, row(1, cell(0, 9, ln(0, 3, 2, 5, 5))))
	laid(t, of(1, "a  "), 30, row(1, cell(0, 15, ln(0, 3, 2, 11, 5))))
	laid(t, of(1, "a  "), 9, row(1, cell(0, 9, ln(0, 3, 2, 5, 5))))
	laid(t, of(1, "a   b"), 23, row(1, cell(0, 23, ln(0, 5, 2, 19, 19))))
	laid(t, of(1, "a   b"), 22, row(2, cell(0, 22, ln(0, 4, 2, 18, 5), ln(4, 5, 2, 18, 5))))
	laid(t, of(1, "  a  b  "), 9, row(2, cell(0, 9, ln(0, 5, 2, 5, 5), ln(5, 8, 2, 5, 5))))
	laid(t, of(1, strings.Repeat(" ", 200)), 4095, row(1, cell(0, 604, ln(0, 200, 2, 600, 0))))
}

// TestWideWords: P17.1, a word that is wider than its column is told as Wide, and stands alone in its line.
func TestWideWords(t *testing.T) {
	laid(t, of(1, "Wim"), 21, row(1, cell(0, 21, ln(0, 3, 2, 17, 17))))
	laid(t, of(1, "Wim"), 20, row(1, cell(0, 20, widely(0, 3, 2, 16, 17))))
	laid(t, of(1, "a Wim i"), 20, row(3, cell(0, 20, ln(0, 2, 2, 16, 5), widely(2, 6, 2, 16, 17), ln(6, 7, 2, 16, 2))))
	laid(t, of(1, strings.Repeat("W", 200)), 4095, row(1, cell(0, 1604, ln(0, 200, 2, 1600, 1600))))
	laid(t, of(1, strings.Repeat("W", 200)), 1603, row(1, cell(0, 1603, widely(0, 200, 2, 1599, 1600))))
	// A word with a hyphen within is not as narrow as its parts, but is parted, if it must be.
	laid(t, of(1, "a-b"), 17, row(1, cell(0, 17, ln(0, 3, 2, 13, 13))))
	laid(t, of(1, "a-b"), 16, row(2, cell(0, 16, ln(0, 2, 2, 12, 8), ln(2, 3, 2, 12, 5))))
}

// TestNarrowColumns: P17.1, a column narrower than twice 2 has a room of 0.
func TestNarrowColumns(t *testing.T) {
	for w := range 4 {
		laid(t, of(1, "a b"), w, row(2, cell(0, w, widely(0, 2, 2, 0, 5), widely(2, 3, 2, 0, 5))))
		laid(t, of(1, ""), w, row(1, cell(0, w, ln(0, 0, 2, 0, 0))))
		laid(t, of(1, " "), w, row(1, cell(0, w, ln(0, 1, 2, 0, 0))))
	}
	laid(t, of(1, "a b"), 4, row(2, cell(0, 4, widely(0, 2, 2, 0, 5), widely(2, 3, 2, 0, 5))))
	laid(t, of(1, "a b"), 5, row(2, cell(0, 5, widely(0, 2, 2, 1, 5), widely(2, 3, 2, 1, 5))))
	laid(t, of(3, "a", "", " "), 7, row(1, cell(0, 2, widely(0, 1, 2, 0, 5)), cell(2, 2, ln(0, 0, 4, 0, 0)), cell(4, 3, ln(0, 1, 6, 0, 0))))
	laid(t, of(3, "a", "", " "), 0, row(1, cell(0, 0, widely(0, 1, 2, 0, 5)), cell(0, 0, ln(0, 0, 2, 0, 0)), cell(0, 0, ln(0, 1, 2, 0, 0))))
	laid(t, of(8, "", "", "", "", "", "", "", "i"), 7, row(1, cell(0, 0, ln(0, 0, 2, 0, 0)), cell(0, 1, ln(0, 0, 2, 0, 0)), cell(1, 1, ln(0, 0, 3, 0, 0)), cell(2, 1, ln(0, 0, 4, 0, 0)), cell(3, 1, ln(0, 0, 5, 0, 0)), cell(4, 1, ln(0, 0, 6, 0, 0)), cell(5, 1, ln(0, 0, 7, 0, 0)), cell(6, 1, widely(0, 1, 8, 0, 2))))
}

// TestTight: P17.1, tables that are tight: the columns share the room evenly, and words may be wider than they.
func TestTight(t *testing.T) {
	laid(t, two(), 21, row(2, cell(0, 10, widely(0, 3, 2, 6, 10), ln(3, 4, 2, 6, 5)), cell(10, 11, widely(0, 2, 12, 7, 10))))
	laid(t, two(), 28, row(2, cell(0, 14, ln(0, 3, 2, 10, 10), ln(3, 4, 2, 10, 5)), cell(14, 14, ln(0, 2, 16, 10, 10))))
	laid(t, two(), 27, row(2, cell(0, 13, widely(0, 3, 2, 9, 10), ln(3, 4, 2, 9, 5)), cell(13, 14, ln(0, 2, 15, 10, 10))))
	laid(t, two(), 36, row(1, cell(0, 22, ln(0, 4, 2, 18, 18)), cell(22, 14, ln(0, 2, 24, 10, 10))))
	laid(t, two(), 35, row(2, cell(0, 21, ln(0, 3, 2, 17, 10), ln(3, 4, 2, 17, 5)), cell(21, 14, ln(0, 2, 23, 10, 10))))
	laid(t, two(), 4095, row(1, cell(0, 22, ln(0, 4, 2, 18, 18)), cell(22, 14, ln(0, 2, 24, 10, 10))))
	l, e := table.Rows(filled(8, 8, strings.Repeat("W", 200)), 4095)
	if e != api.OK || len(l) != 1 || l[0].Cells[0].W != 511 || l[0].Cells[7].X != 3583 || l[0].Cells[7].Lines[0] != widely(0, 200, 3585, 508, 1600) {
		t.Error(l, e)
	}
}

// TestHighestCell: P17.1, a row is as high as its highest cell, be it the first one, the last one or one between.
func TestHighestCell(t *testing.T) {
	for cols := 1; cols <= 8; cols++ {
		for at := range cols {
			for words := 1; words <= 5; words++ {
				x := filled(cols, cols, "W")
				x.Cells[at] = strings.TrimRight(strings.Repeat("m ", words), " ")
				l, e := table.Rows(x, 12*cols)
				if e != api.OK || len(l) != 1 || l[0].H != 4+10*words || len(l[0].Splits) != words-1 {
					t.Errorf("%q: %v, %v", x.Cells, l, e)
				}
				for i, c := range l[0].Cells {
					lines := 1
					if i == at {
						lines = words
					}
					if c.X != 12*i && cols > 1 && at >= i || len(c.Lines) != lines {
						t.Errorf("%q: cell %d: %v", x.Cells, i, c)
					}
				}
				compare(t, x, 12*cols)
			}
		}
	}
}

// TestSplits: P17.1, a row of one line has no splits, one of n lines has one ahead of each line but the first.
func TestSplits(t *testing.T) {
	for words, must := range map[int][]int{1: nil, 2: {12}, 3: {12, 22}, 4: {12, 22, 32}, 7: {12, 22, 32, 42, 52, 62}} {
		for _, x := range []api.Table{of(1, strings.Repeat("a ", words)), of(2, "", strings.Repeat("a ", words)), of(2, strings.Repeat("a ", words), "b")} {
			l, e := table.Rows(x, 9*x.Cols)
			if e != api.OK || len(l) != 1 || !slices.Equal(l[0].Splits, must) || l[0].H != 4+10*words {
				t.Errorf("%q: %v, %v, not %v", x.Cells, l, e, must)
			}
		}
	}
}

// TestManyRows: P17.1, rows of different heights, from the top; the columns are the same in all of them.
func TestManyRows(t *testing.T) {
	laid(t, of(1, "a b c", "", "a b", "b"), 9,
		row(3, cell(0, 9, ln(0, 2, 2, 5, 5), ln(2, 4, 2, 5, 5), ln(4, 5, 2, 5, 5))),
		row(1, cell(0, 9, ln(0, 0, 2, 5, 0))),
		row(2, cell(0, 9, ln(0, 2, 2, 5, 5), ln(2, 3, 2, 5, 5))),
		row(1, cell(0, 9, ln(0, 1, 2, 5, 5))))
	laid(t, of(2, "i", "a", "W", "a b", "i i i", ""), 21,
		row(1, cell(0, 12, ln(0, 1, 2, 8, 2)), cell(12, 9, ln(0, 1, 14, 5, 5))),
		row(2, cell(0, 12, ln(0, 1, 2, 8, 8)), cell(12, 9, ln(0, 2, 14, 5, 5), ln(2, 3, 14, 5, 5))),
		row(2, cell(0, 12, ln(0, 4, 2, 8, 7), ln(4, 5, 2, 8, 2)), cell(12, 9, ln(0, 0, 14, 5, 0))))
	for cols := 1; cols <= 8; cols++ {
		for rows := 1; rows*cols <= 64; rows++ {
			x := filled(cols, rows*cols, "a b")
			if h, e := table.Height(x, 9*cols); h != 24*rows || e != api.OK {
				t.Errorf("%d rows of %d: %d, %v", rows, cols, h, e)
			}
			if h, e := table.Height(x, 17*cols); h != 14*rows || e != api.OK {
				t.Errorf("%d rows of %d: %d, %v", rows, cols, h, e)
			}
			compare(t, x, 9*cols)
		}
	}
	if h, e := table.Height(filled(1, 64, strings.Repeat("a ", 100)), 9); h != 64*1004 || e != api.OK {
		t.Error(h, e)
	}
}

// TestCellsAreLaidAsTheirParagraphs: P17.1, each cell's lines are those of grid's paragraph by para, without slots.
func TestCellsAreLaidAsTheirParagraphs(t *testing.T) {
	roll := chance(5)
	for range 60 {
		x := api.Table{Cols: 1 + roll(8)}
		for range x.Cols * (1 + roll(3)) {
			x.Cells = append(x.Cells, mixed(roll))
		}
		w := roll(900)
		widths, _, _ := grid.Widths(x, w)
		l, _ := table.Rows(x, w)
		for i, text := range x.Cells {
			c := l[i/x.Cols].Cells[i%x.Cols]
			must, _ := para.Lay(grid.Cell(text), nil, api.Slot{X: c.X + 2, W: max(0, c.W-4)})
			if c.W != widths[i%x.Cols] || !slices.Equal(c.Lines, must) {
				t.Errorf("%q: %v, not %v", text, c, must)
			}
		}
	}
}

// TestBetween: P17.2, the whole row, nothing, and heights that stand at a line's upper end, beside it, and within a line.
func TestBetween(t *testing.T) {
	a := []api.Line{ln(0, 2, 2, 5, 5), ln(2, 4, 2, 5, 5), ln(4, 5, 2, 5, 5)}
	b := []api.Line{ln(0, 1, 11, 5, 5)}
	r := row(3, cell(0, 9, a...), cell(9, 9, b...))
	all := func(from, to, n int) (l []api.CellLines) {
		return []api.CellLines{cell(0, 9, a[from:to]...), cell(9, 9, b[:n]...)}
	}
	stands(t, r, 0, 34, all(0, 3, 1)...)
	for h := range 35 {
		stands(t, r, h, h, all(0, 0, 0)...)
	}
	for _, h := range []int{0, 1, 2} {
		stands(t, r, 0, h, all(0, 0, 0)...)
		stands(t, r, h, 34, all(0, 3, 1)...)
		stands(t, r, h, 3, all(0, 1, 1)...)
		stands(t, r, h, 7, all(0, 1, 1)...)
		stands(t, r, h, 11, all(0, 1, 1)...)
		stands(t, r, h, 12, all(0, 1, 1)...)
		stands(t, r, h, 13, all(0, 2, 1)...)
		stands(t, r, h, 22, all(0, 2, 1)...)
		stands(t, r, h, 23, all(0, 3, 1)...)
		stands(t, r, h, 33, all(0, 3, 1)...)
	}
	for h := 3; h <= 12; h++ {
		stands(t, r, h, 34, []api.CellLines{cell(0, 9, a[1:]...), cell(9, 9)}...)
		stands(t, r, h, 13, []api.CellLines{cell(0, 9, a[1]), cell(9, 9)}...)
		stands(t, r, h, 12, []api.CellLines{cell(0, 9), cell(9, 9)}...)
	}
	stands(t, r, 13, 34, []api.CellLines{cell(0, 9, a[2]), cell(9, 9)}...)
	stands(t, r, 22, 34, []api.CellLines{cell(0, 9, a[2]), cell(9, 9)}...)
	stands(t, r, 22, 23, []api.CellLines{cell(0, 9, a[2]), cell(9, 9)}...)
	stands(t, r, 23, 34, []api.CellLines{cell(0, 9), cell(9, 9)}...)
	stands(t, r, 12, 22, []api.CellLines{cell(0, 9, a[1]), cell(9, 9)}...)
}

// TestOutside: P17.2 and P11, heights that are out of a row, or turned round.
func TestOutside(t *testing.T) {
	r := oneRow()
	for _, h := range []int{math.MinInt, math.MinInt32, -1000, -2, -1, 25, 26, 1000, math.MaxInt32, 1 << 32, 1<<32 + 12, math.MaxInt} {
		outside(t, r, h, 12)
		outside(t, r, 12, h)
		outside(t, r, h, h)
		outside(t, r, h, 0)
	}
	outside(t, r, -1, 24)
	outside(t, r, 0, 25)
	outside(t, r, 24, 25)
	outside(t, r, 24, 23)
	outside(t, r, 1, 0)
	outside(t, r, math.MaxInt, math.MinInt)
	outside(t, r, math.MinInt, math.MaxInt)
	stands(t, r, 0, 0, cell(0, 16), cell(16, 14))
	stands(t, r, 24, 24, cell(0, 16), cell(16, 14))
}

// TestBetweenOfAnyRow: P17.2, rows that no table has.
func TestBetweenOfAnyRow(t *testing.T) {
	stands(t, api.Row{}, 0, 0)
	outside(t, api.Row{}, 0, 1)
	outside(t, api.Row{}, -1, 0)
	stands(t, api.Row{H: 24, Splits: []int{12}}, 0, 24)
	outside(t, api.Row{H: 24}, 0, 25)
	outside(t, api.Row{H: 24}, 3, 2)
	some := []api.Line{ln(3, 1, -5, -6, 99), widely(7, 7, 7, 7, 7), ln(0, 0, 0, 0, 0)}
	// The row is too low for its lines, or as high as no line needs.
	stands(t, api.Row{H: 0, Cells: []api.CellLines{cell(1, 2, some...)}}, 0, 0, cell(1, 2))
	outside(t, api.Row{H: 0, Cells: []api.CellLines{cell(1, 2, some...)}}, 0, 1)
	low := api.Row{H: 12, Cells: []api.CellLines{cell(-1, -2, some...), cell(5, 5), cell(math.MinInt, math.MaxInt, some[1:2]...)}}
	stands(t, low, 0, 12, cell(-1, -2, some[0]), cell(5, 5), cell(math.MinInt, math.MaxInt, some[1]))
	stands(t, low, 3, 12, cell(-1, -2), cell(5, 5), cell(math.MinInt, math.MaxInt))
	outside(t, low, 0, 13)
	high := api.Row{H: math.MaxInt, Cells: low.Cells}
	stands(t, high, 0, math.MaxInt, low.Cells...)
	stands(t, high, 12, math.MaxInt, cell(-1, -2, some[1:]...), cell(5, 5), cell(math.MinInt, math.MaxInt))
	stands(t, high, math.MaxInt-1, math.MaxInt, cell(-1, -2), cell(5, 5), cell(math.MinInt, math.MaxInt))
	stands(t, high, math.MaxInt, math.MaxInt, cell(-1, -2), cell(5, 5), cell(math.MinInt, math.MaxInt))
	outside(t, high, -1, math.MaxInt)
	// H below 0 holds no heights.
	for _, h := range []int{-1, -24, math.MinInt} {
		outside(t, api.Row{H: h, Cells: low.Cells}, 0, 0)
		outside(t, api.Row{H: h, Cells: low.Cells}, h, h)
		outside(t, api.Row{H: h, Cells: low.Cells}, h, 0)
	}
	// The splits say nothing of what stands between.
	stands(t, api.Row{H: 34, Splits: []int{-7, 3, 99}, Cells: []api.CellLines{cell(0, 0, some...)}}, 12, 34, cell(0, 0, some[1:]...))
	// More lines than a cell can have.
	many := slices.Repeat(some[:1], 5000)
	stands(t, api.Row{H: 50004, Cells: []api.CellLines{cell(0, 0, many...)}}, 12, 40003, cell(0, 0, many[:4000]...))
}

// TestPartsOfParts: P17.3, a part by part cut row has all its lines, wherever it is cut.
func TestPartsOfParts(t *testing.T) {
	l, _ := table.Rows(of(3, "a b c d e", "i", "a b"), 27)
	r := l[0]
	for a := range r.H + 1 {
		for b := a; b <= r.H; b++ {
			x, _ := table.Between(r, 0, a)
			y, _ := table.Between(r, a, b)
			z, _ := table.Between(r, b, r.H)
			for i, c := range r.Cells {
				if !slices.Equal(slices.Concat(x[i].Lines, y[i].Lines, z[i].Lines), c.Lines) {
					t.Fatal(a, b, x, y, z)
				}
			}
		}
	}
}

// TestListsStayAsTheyWere: rule 4, a list that is handed in is not changed, and its spare room neither read nor written, nor what stands ahead of it in its memory.
func TestListsStayAsTheyWere(t *testing.T) {
	all := []string{"\x00", "ab c", "dd", "WWWW", strings.Repeat("a", 201)}
	was := slices.Clone(all)
	x := api.Table{Cols: 2, Cells: all[1:3]}
	for w := range 60 {
		table.Check(x)
		table.Rows(x, w-5)
		table.Height(x, w-5)
		table.Rows(api.Table{Cols: 1, Cells: all}, w)
		table.Rows(api.Table{Cols: 3, Cells: all[1:4]}, w)
	}
	laid(t, x, 30, oneRow())
	refused(t, api.Table{Cols: 1, Cells: all[1:1]})
	refused(t, api.Table{Cols: 3, Cells: all[1:3]})
	refused(t, api.Table{Cols: 2, Cells: all[0:2]})
	refused(t, api.Table{Cols: 2, Cells: all[3:5]})
	if !slices.Equal(all, was) {
		t.Errorf("%q have become %q", was, all)
	}
	many := slices.Repeat([]string{"a"}, 90)
	many[64] = "\n"
	may(t, api.Table{Cols: 8, Cells: many[:64]})
	refused(t, api.Table{Cols: 5, Cells: many[:65]})
}

// TestRowsStayAsTheyWere: rule 4, a row that is handed in is not changed, and its lists' spare room neither read nor written.
func TestRowsStayAsTheyWere(t *testing.T) {
	lines := []api.Line{ln(9, 9, 9, 9, 9), ln(0, 2, 2, 5, 5), ln(2, 4, 2, 5, 5), widely(8, 8, 8, 8, 8), ln(7, 7, 7, 7, 7)}
	cells := []api.CellLines{cell(5, 6), cell(0, 9, lines[1:3]...), cell(7, 8, lines...)}
	splits := []int{1, 12, 99}
	r := api.Row{H: 44, Splits: splits[1:2], Cells: cells[1:2]}
	r.Cells[0].Lines = lines[1:3]
	wasLines, wasCells, wasSplits := slices.Clone(lines), slices.Clone(cells), slices.Clone(splits)
	for from := -2; from < 47; from++ {
		for to := -2; to < 47; to++ {
			table.Between(r, from, to)
		}
	}
	stands(t, r, 0, 44, cell(0, 9, ln(0, 2, 2, 5, 5), ln(2, 4, 2, 5, 5)))
	if !slices.Equal(lines, wasLines) || !sameCells(cells, wasCells) || !slices.Equal(splits, wasSplits) {
		t.Error(lines, cells, splits)
	}
}

// TestListsAreNotLookedAtLater: rule 4, what was answered stays, though the list that was handed in is written over.
func TestListsAreNotLookedAtLater(t *testing.T) {
	x := two()
	l, _ := table.Rows(x, 30)
	x.Cells[0], x.Cells[1] = "WWWWW", "\n"
	if !sameRows(l, []api.Row{oneRow()}) {
		t.Error(l)
	}
	refused(t, x)
	r := oneRow()
	between, _ := table.Between(r, 0, 24)
	r.Cells[0].Lines[0] = ln(7, 7, 7, 7, 7)
	r.Cells[1] = cell(8, 8)
	if !sameCells(between, oneRow().Cells) {
		t.Error(between)
	}
	stands(t, r, 0, 24, cell(0, 16, ln(7, 7, 7, 7, 7), ln(3, 4, 2, 12, 5)), cell(8, 8))
}

// spendCells writes over cells and their lines, their spare room too.
func spendCells(l []api.CellLines) {
	for i := range l[:cap(l)] {
		c := &l[:cap(l)][i]
		for j := range c.Lines[:cap(c.Lines)] {
			c.Lines[:cap(c.Lines)][j] = ln(-9, -9, -9, -9, -9)
		}
		*c = cell(-9, -9)
	}
}

// spend writes over rows and all their lists, their spare room too.
func spend(l []api.Row) {
	for i := range l[:cap(l)] {
		r := &l[:cap(l)][i]
		for j := range r.Splits[:cap(r.Splits)] {
			r.Splits[:cap(r.Splits)][j] = -9
		}
		spendCells(r.Cells)
		*r = api.Row{H: -9}
	}
}

// TestAnswersMayBeWrittenOver: rule 4, each answer is new memory, its spare room too, and no two lists of one share any.
func TestAnswersMayBeWrittenOver(t *testing.T) {
	for _, x := range []api.Table{two(), filled(8, 64, "a bb c"), filled(3, 9, ""), of(1, "a b c", "a b", "c")} {
		for _, w := range []int{0, 30, 4095} {
			must := rowsOf(x, w)
			for at := range must {
				a, _ := table.Rows(x, w)
				b, _ := table.Rows(x, w)
				spend(a[at : at+1 : at+1])
				if !sameRows(a[:at], must[:at]) || !sameRows(a[at+1:], must[at+1:]) {
					t.Error("rows of one answer share memory")
				}
				spend(a)
				if !sameRows(b, must) {
					t.Error("answers share memory")
				}
				for i := range b[at].Cells {
					spendCells(b[at].Cells[i : i+1 : i+1])
					if !sameCells(b[at].Cells[i+1:], must[at].Cells[i+1:]) || !slices.Equal(b[at].Splits, must[at].Splits) {
						t.Error("cells of one answer share memory")
					}
				}
				compare(t, x, w)
			}
		}
	}
}

// TestPartsMayBeWrittenOver: rule 4, what stands between is new memory, its spare room too: the row stays, and so do other parts.
func TestPartsMayBeWrittenOver(t *testing.T) {
	shared := []api.Line{ln(0, 2, 2, 5, 5), ln(2, 4, 2, 5, 5), ln(4, 5, 2, 5, 5)}
	r := row(3, cell(0, 9, shared...), cell(9, 9, shared...), cell(18, 9))
	r.Cells[0].Lines, r.Cells[1].Lines = shared, shared
	must := row(3, cell(0, 9, slices.Clone(shared)...), cell(9, 9, slices.Clone(shared)...), cell(18, 9))
	for from := range r.H + 1 {
		for to := from; to <= r.H; to++ {
			a, _ := table.Between(r, from, to)
			b, _ := table.Between(r, from, to)
			spendCells(a[:1:1])
			if !sameCells(a[1:], b[1:]) {
				t.Error("cells of one answer share memory", from, to)
			}
			spendCells(a)
			if !sameCells(b, between(must, from, to)) || !sameRows([]api.Row{r}, []api.Row{must}) {
				t.Fatal("answers share memory", from, to)
			}
		}
	}
}

// TestNothingIsKept: P1, what a call answers depends on its arguments alone: calls in whatever order answer the same.
func TestNothingIsKept(t *testing.T) {
	all := []api.Table{two(), filled(8, 64, "a bb"), of(1, ""), {}, of(1, "\n"), of(3, "W", "i i", "M"), of(3, "i i", "W", "M")}
	must := make([][]api.Row, len(all))
	for i, x := range all {
		must[i], _ = table.Rows(x, 33)
	}
	roll := chance(6)
	for range 300 {
		i, j := roll(len(all)), roll(len(all))
		table.Rows(all[j], roll(60)-3)
		table.Height(all[j], roll(60)-3)
		table.Between(anyRow(roll), roll(9), roll(60))
		if l, _ := table.Rows(all[i], 33); !sameRows(l, must[i]) {
			t.Fatal(i, l, must[i])
		}
	}
}

// TestSideBySide: P1, calls on one table and one row from several goroutines answer the same.
func TestSideBySide(t *testing.T) {
	x := filled(8, 64, "a bb i")
	r := oneRow()
	var all sync.WaitGroup
	for i := range 8 {
		all.Go(func() {
			for w := range 10 {
				if l, e := table.Rows(x, 20*w+i); !sameRows(l, rowsOf(x, 20*w+i)) || e != api.OK {
					t.Error(l, e)
				}
				stands(t, r, w, 24, between(oneRow(), w, 24)...)
			}
		})
	}
	all.Wait()
}
