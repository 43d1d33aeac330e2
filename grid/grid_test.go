package grid_test

import (
	"math"
	"reflect"
	"slices"
	"strings"
	"sync"
	"testing"

	"quire/api"
	"quire/grid"
	"quire/metric"
)

// far is numbers that are out of all bounds.
var far = []int{math.MinInt, math.MinInt + 1, math.MinInt32 - 1, math.MinInt32, -1 << 16, -4096, -4095, -256, -255, -8, 1 << 16, 1<<16 + 1, math.MaxInt32, math.MaxInt32 + 1, 1 << 32, 1<<32 + 1, 1<<32 + 100, math.MaxInt - 1, math.MaxInt}

// noCols is numbers of columns that no table has.
var noCols = slices.Concat(far, []int{-2, -1, 0, 9, 10, 16, 64, 255, 256, 257, 258, 264})

// noRooms is numbers that are no rooms, with those beside the bounds.
var noRooms = slices.Concat(far, []int{-2, -1, 4096, 4097, 8190})

// noBytes is bytes that no cell has.
func noBytes() []byte {
	out := []byte{127}
	for b := range 256 {
		if b < 32 || b > 126 {
			out = append(out, byte(b))
		}
	}
	return out
}

// two is the table of the chapter's examples.
func two() api.Table { return table(2, "ab c", "dd") }

// table makes a table of its cells.
func table(cols int, cells ...string) api.Table { return api.Table{Cols: cols, Cells: cells} }

// filled makes a table of so many cells of one text.
func filled(cols, n int, text string) api.Table {
	return table(cols, slices.Repeat([]string{text}, n)...)
}

// may tells whether a table may be, by all calls.
func may(t *testing.T, x api.Table) {
	t.Helper()
	if e := grid.Check(x); e != api.OK {
		t.Errorf("check of %d cells in %d columns: %v", len(x.Cells), x.Cols, e)
	}
	if l, e := grid.Least(x); len(l) != x.Cols || e != api.OK {
		t.Errorf("least of %d cells in %d columns: %v, %v", len(x.Cells), x.Cols, l, e)
	}
	if l, e := grid.Most(x); len(l) != x.Cols || e != api.OK {
		t.Errorf("most of %d cells in %d columns: %v, %v", len(x.Cells), x.Cols, l, e)
	}
	for _, w := range []int{0, 1, 100, 4094, 4095} {
		if l, _, e := grid.Widths(x, w); len(l) != x.Cols || e != api.OK {
			t.Errorf("widths of %d cells in %d columns for %d: %v, %v", len(x.Cells), x.Cols, w, l, e)
		}
	}
}

// refused tells whether a table may not be, by all calls, whatever the room is.
func refused(t *testing.T, x api.Table) {
	t.Helper()
	if e := grid.Check(x); e != api.ErrArg {
		t.Errorf("check of %d cells in %d columns: %v", len(x.Cells), x.Cols, e)
	}
	if l, e := grid.Least(x); len(l) != 0 || e != api.ErrArg {
		t.Errorf("least of %d cells in %d columns: %v, %v", len(x.Cells), x.Cols, l, e)
	}
	if l, e := grid.Most(x); len(l) != 0 || e != api.ErrArg {
		t.Errorf("most of %d cells in %d columns: %v, %v", len(x.Cells), x.Cols, l, e)
	}
	for _, w := range []int{0, 100, 4095, -1, 4096, math.MinInt, math.MaxInt} {
		unfitted(t, x, w, api.ErrArg)
	}
}

// measured tells whether columns have these least and greatest widths.
func measured(t *testing.T, x api.Table, least, most []int) {
	t.Helper()
	if e := grid.Check(x); e != api.OK {
		t.Errorf("check of %v: %v", x, e)
	}
	if l, e := grid.Least(x); !slices.Equal(l, least) || e != api.OK {
		t.Errorf("least of %v: %v, %v, not %v", x, l, e, least)
	}
	if l, e := grid.Most(x); !slices.Equal(l, most) || e != api.OK {
		t.Errorf("most of %v: %v, %v, not %v", x, l, e, most)
	}
}

// oneCell tells whether a cell, by itself, has these least and greatest widths, without the 4 that are added.
func oneCell(t *testing.T, text string, least, most int) {
	t.Helper()
	measured(t, table(1, text), []int{least + 4}, []int{most + 4})
}

// fits tells whether the widths for w are these.
func fits(t *testing.T, x api.Table, w int, tight bool, must ...int) {
	t.Helper()
	if l, g, e := grid.Widths(x, w); !slices.Equal(l, must) || g != tight || e != api.OK {
		t.Errorf("widths of %v for %d: %v, %v, %v, not %v, %v", x, w, l, g, e, must, tight)
	}
}

// unfitted tells whether no widths, but an error is told.
func unfitted(t *testing.T, x api.Table, w int, must api.Errno) {
	t.Helper()
	if l, tight, e := grid.Widths(x, w); len(l) != 0 || tight || e != must {
		t.Errorf("widths of %d cells in %d columns for %d: %v, %v, %v, not %v", len(x.Cells), x.Cols, w, l, tight, e, must)
	}
}

// TestExamples: the chapter's table, row by row.
func TestExamples(t *testing.T) {
	measured(t, two(), []int{14, 14}, []int{22, 14})
	fits(t, two(), 50, false, 22, 14)
	fits(t, two(), 36, false, 22, 14)
	fits(t, two(), 30, false, 16, 14)
	fits(t, two(), 28, false, 14, 14)
	fits(t, two(), 21, true, 10, 11)
	refused(t, table(2, "a", "b", "c"))
	refused(t, table(0, "a"))
	refused(t, table(1, strings.Repeat("a", 201)))
	unfitted(t, two(), -1, api.ErrRange)
}

// TestHowManyColumns: P16.1 and P11, from one to eight columns, and what is beside that.
func TestHowManyColumns(t *testing.T) {
	for cols := 1; cols <= 8; cols++ {
		for n := 1; n <= 64; n++ {
			if n%cols == 0 {
				may(t, filled(cols, n, "a b"))
			} else {
				refused(t, filled(cols, n, "a b"))
			}
		}
	}
	for _, cols := range noCols {
		for _, n := range []int{0, 1, 8, 9, 10, 16, 18, 45, 63, 64} {
			refused(t, filled(cols, n, "a b"))
		}
	}
}

// TestHowManyCells: P16.1 and P11, no cells, one row, as many as may be, more of them.
func TestHowManyCells(t *testing.T) {
	for cols := 1; cols <= 8; cols++ {
		refused(t, table(cols))
		refused(t, api.Table{Cols: cols, Cells: []string{}})
		may(t, filled(cols, cols, ""))
		may(t, filled(cols, 64/cols*cols, strings.Repeat("W", 200)))
		refused(t, filled(cols, 64/cols*cols+cols, ""))
		for _, n := range []int{65, 66, 70, 72, 128, 255, 256, 257, 264, 512, 840, 1 << 16, 1<<16 + 8} {
			refused(t, filled(cols, n, ""))
		}
	}
	may(t, table(1, ""))
	may(t, filled(8, 64, ""))
	refused(t, api.Table{})
}

// TestLongCells: P16.1 and P11, cells of up to 200 bytes, and of more, at each place.
func TestLongCells(t *testing.T) {
	for _, n := range []int{1, 2, 6, 64} {
		for at := range n {
			x := filled(min(n, 2), n, "ab")
			for _, long := range []int{0, 1, 2, 199, 200} {
				x.Cells[at] = strings.Repeat("m", long)
				may(t, x)
				x.Cells[at] = strings.Repeat(" ", long)
				may(t, x)
			}
			for _, long := range []int{201, 202, 255, 256, 257, 400, 456, 4096, 4097, 1 << 16, 1<<16 + 200} {
				x.Cells[at] = strings.Repeat("m", long)
				refused(t, x)
				x.Cells[at] = strings.Repeat(" ", long)
				refused(t, x)
			}
		}
	}
}

// TestBytesOfCells: P16.1, each byte by itself and within a text, at each place of a table.
func TestBytesOfCells(t *testing.T) {
	for b := 32; b <= 126; b++ {
		c := string([]byte{byte(b)})
		for _, text := range []string{c, c + "ab", "a" + c + "b", "ab" + c, strings.Repeat(c, 200)} {
			may(t, table(1, text))
			may(t, table(2, "a", text, text, "b"))
		}
	}
	for _, b := range noBytes() {
		c := string([]byte{b})
		for _, text := range []string{c, c + "ab", "a" + c + "b", "ab" + c, strings.Repeat("a", 199) + c} {
			refused(t, table(1, text))
			for at := range 6 {
				x := filled(2, 6, "ab")
				x.Cells[at] = text
				refused(t, x)
			}
		}
	}
	refused(t, table(1, "\u00e9"))
	refused(t, table(1, "a\u2003b"))
}

// TestSeveralFaults: P16.1, all that may be wrong with a table, two by two.
func TestSeveralFaults(t *testing.T) {
	for _, cols := range noCols {
		refused(t, table(cols, "a\n"))
		refused(t, table(cols, strings.Repeat("a", 201)))
		refused(t, filled(cols, 65, "a"))
	}
	refused(t, table(2, "a", "b", "c\n"))
	refused(t, table(2, "a", "b", strings.Repeat("c", 201)))
	refused(t, filled(2, 65, "\x1f"))
	refused(t, filled(1, 65, strings.Repeat("\x7f", 201)))
}

// TestRooms: P16.2 and P11, a room at its least and greatest, and beyond.
func TestRooms(t *testing.T) {
	for _, x := range []api.Table{two(), table(1, ""), filled(8, 64, "a b"), filled(8, 64, strings.Repeat("W", 200))} {
		for _, w := range noRooms {
			unfitted(t, x, w, api.ErrRange)
		}
		kept(t, x, 0)
		kept(t, x, 1)
		kept(t, x, 4094)
		kept(t, x, 4095)
	}
}

// TestOrderOfErrors: P16.2 and rule 1, a table that may not be is told ahead of a room that is out of its bounds.
func TestOrderOfErrors(t *testing.T) {
	for _, x := range []api.Table{{}, table(2), table(0, "a"), table(9, slices.Repeat([]string{"a"}, 9)...), table(2, "a"), filled(1, 65, ""), table(1, "\t"), table(1, strings.Repeat(" ", 201))} {
		for _, w := range noRooms {
			unfitted(t, x, w, api.ErrArg)
			unfitted(t, two(), w, api.ErrRange)
		}
		unfitted(t, x, 0, api.ErrArg)
		unfitted(t, x, 4095, api.ErrArg)
	}
}

// TestCell: P16.1, the paragraph of a text, each of its properties, whatever the text is.
func TestCell(t *testing.T) {
	for _, text := range []string{"a", "ab c", " ", strings.Repeat("a", 199), strings.Repeat("a", 200), strings.Repeat("a", 201), strings.Repeat("a", 4096), strings.Repeat("a", 4097), strings.Repeat("b", 1<<17), "\x00", "a\nb", "\x7f", "\xff\xfe", "\u00e9", string(noBytes())} {
		p := grid.Cell(text)
		must := api.Para{Text: text, P: api.Props{Size: 8, Pitch: 10, Orphan: 1, Widow: 1}, Spans: []api.Span{{Len: len(text), C: api.Char{}}}}
		if !reflect.DeepEqual(p, must) {
			t.Errorf("cell of %d bytes: %v, not %v", len(text), p, must)
		}
		if may := len(text) <= 4096 && strings.IndexFunc(text, func(r rune) bool { return r < 32 || r > 126 }) < 0; (metric.Check(p) == api.OK) != may {
			t.Errorf("cell of %q: %v", text[:min(len(text), 20)], metric.Check(p))
		}
	}
	for b := range 256 {
		c := string([]byte{byte(b)})
		if p := grid.Cell(c); p.Text != c || !slices.Equal(p.Spans, []api.Span{{Len: 1}}) || p.P != (api.Props{Size: 8, Pitch: 10, Orphan: 1, Widow: 1}) || p.Label != "" || len(p.Marks) != 0 {
			t.Errorf("cell of the byte %d: %v", b, p)
		}
	}
}

// TestCellOfNothing: P16.1, the paragraph of no bytes has no span.
func TestCellOfNothing(t *testing.T) {
	p := grid.Cell("")
	if p.Text != "" || len(p.Spans) != 0 || p.P != (api.Props{Size: 8, Pitch: 10, Orphan: 1, Widow: 1}) || p.Label != "" || len(p.Marks) != 0 {
		t.Error(p)
	}
	if e := metric.Check(p); e != api.OK {
		t.Error(e)
	}
}

// TestOneCell: P16.2, cells of nothing, of blanks, of one word, of several of which the widest is the first, the last, in the middle; blanks ahead, behind and several together.
func TestOneCell(t *testing.T) {
	oneCell(t, "", 0, 0)
	oneCell(t, " ", 0, 3)
	oneCell(t, "   ", 0, 9)
	oneCell(t, strings.Repeat(" ", 200), 0, 600)
	oneCell(t, "a", 5, 5)
	oneCell(t, "Wim", 17, 17)
	oneCell(t, strings.Repeat("W", 200), 1600, 1600)
	oneCell(t, "mm a i", 14, 27)
	oneCell(t, "a mm i", 14, 27)
	oneCell(t, "i a mm", 14, 27)
	oneCell(t, "a a a", 5, 21)
	oneCell(t, " mm", 14, 17)
	oneCell(t, "mm ", 14, 17)
	oneCell(t, "   mm", 14, 23)
	oneCell(t, "mm   ", 14, 23)
	oneCell(t, " mm ", 14, 20)
	oneCell(t, "a   mm", 14, 28)
	oneCell(t, "  a   mm  i  ", 14, 48)
	// The widest is what has the most width, not the most bytes.
	oneCell(t, "iiii W lll", 8, 28)
	oneCell(t, "W iiiii", 10, 21)
	// Signs are of a word, a hyphen among them.
	oneCell(t, "a-b 1,5", 13, 28)
	oneCell(t, strings.Repeat("a ", 100), 5, 800)
	oneCell(t, strings.Repeat("a", 100)+" "+strings.Repeat("b", 99), 500, 998)
	oneCell(t, strings.Repeat("a", 99)+" "+strings.Repeat("b", 100), 500, 998)
}

// TestAccents: P16.2, accents behind a letter are of its cluster and take no room; those that are clusters by themselves do.
func TestAccents(t *testing.T) {
	oneCell(t, "a^", 5, 5)
	oneCell(t, "a^~", 5, 5)
	oneCell(t, "a^~`", 8, 8)
	oneCell(t, "^a", 8, 8)
	oneCell(t, "a ^", 5, 11)
	oneCell(t, "a ^b", 8, 16)
	oneCell(t, "1^", 8, 8)
	oneCell(t, "~~~ a~~", 9, 17)
}

// TestNoKerning: P16.2, nothing in a cell stands nearer to what is ahead of it.
func TestNoKerning(t *testing.T) {
	oneCell(t, "AVAT", 24, 24)
	oneCell(t, "To We r.", 13, 35)
}

// TestColumns: P16.2, the widest cell of a column is in the first row, the last one, one between; each column is its own.
func TestColumns(t *testing.T) {
	for at := range 4 {
		cells := slices.Repeat([]string{"i i"}, 4)
		cells[at] = "mm a"
		measured(t, table(1, cells...), []int{18}, []int{26})
		for cols := 2; cols <= 8; cols++ {
			for col := range cols {
				x := filled(cols, 4*cols, "i i")
				x.Cells[at*cols+col] = "mm a"
				least, most := slices.Repeat([]int{6}, cols), slices.Repeat([]int{11}, cols)
				least[col], most[col] = 18, 26
				measured(t, x, least, most)
			}
		}
	}
	// A column's least and greatest widths may be of two cells.
	measured(t, table(1, "WWW", "i i i i i i", ""), []int{28}, []int{31})
	measured(t, table(2, "", "a", "i i i i i i", "", "WWW", " "), []int{28, 9}, []int{31, 9})
}

// TestEmptyCells: P16.2, the 4 are added to columns of empty cells, too.
func TestEmptyCells(t *testing.T) {
	for cols := 1; cols <= 8; cols++ {
		for rows := 1; rows*cols <= 64; rows++ {
			four := slices.Repeat([]int{4}, cols)
			measured(t, filled(cols, rows*cols, ""), four, four)
			fits(t, filled(cols, rows*cols, ""), 4*cols, false, four...)
			fits(t, filled(cols, rows*cols, ""), 4095, false, four...)
			kept(t, filled(cols, rows*cols, ""), 4*cols-1)
		}
	}
	measured(t, table(3, "", "a", "", "", "", " "), []int{4, 9, 4}, []int{4, 9, 7})
}

// TestRoomForAll: P16.2, the greatest widths together less than w, just w, and more by one.
func TestRoomForAll(t *testing.T) {
	x := table(3, "a b", "mm mm", "W") // least 9 18 12, greatest 17 35 12: they grow by 8, 17 and 0
	measured(t, x, []int{9, 18, 12}, []int{17, 35, 12})
	fits(t, x, 4095, false, 17, 35, 12)
	fits(t, x, 65, false, 17, 35, 12)
	fits(t, x, 64, false, 17, 35, 12)
	fits(t, x, 63, false, 16, 35, 12) // 24 times 8 by 25 is 7
	fits(t, x, 62, false, 16, 34, 12)
	fits(t, x, 51, false, 12, 27, 12) // 12 times 8 by 25 is 3
	fits(t, x, 43, false, 10, 21, 12)
	fits(t, x, 42, false, 9, 21, 12)
	fits(t, x, 40, false, 9, 19, 12)
	fits(t, x, 39, false, 9, 18, 12)
	fits(t, x, 38, true, 12, 13, 13)
}

// TestPartsAreRoundedDown: P16.2, what the first columns have together is rounded down, not each one's part: nothing is lost.
func TestPartsAreRoundedDown(t *testing.T) {
	x := filled(3, 3, "i i") // least 6 each, greatest 11 each
	measured(t, x, []int{6, 6, 6}, []int{11, 11, 11})
	fits(t, x, 18, false, 6, 6, 6)
	fits(t, x, 19, false, 6, 6, 7)
	fits(t, x, 20, false, 6, 7, 7)
	fits(t, x, 21, false, 7, 7, 7)
	fits(t, x, 22, false, 7, 7, 8)
	fits(t, x, 23, false, 7, 8, 8)
	fits(t, x, 32, false, 10, 11, 11)
	fits(t, x, 33, false, 11, 11, 11)
	fits(t, filled(8, 8, "i i"), 8*6+7, false, 6, 7, 7, 7, 7, 7, 7, 7)
	fits(t, filled(8, 8, "i i"), 8*6+1, false, 6, 6, 6, 6, 6, 6, 6, 7)
	fits(t, filled(8, 8, "i i"), 8*6+12, false, 7, 8, 7, 8, 7, 8, 7, 8)
	// Unlike columns, which grow by 5, 5 and 13: of 5 more the first one has 5 times 5 by 23, the first two 5 times 10 by 23, and so on.
	fits(t, table(3, "i i", "i j", "aa bb"), 6+6+14+5, false, 7, 7, 17)
	fits(t, table(3, "aa bb", "i i", "i j"), 6+6+14+5, false, 16, 7, 8)
}

// TestColumnsThatCannotGrow: P16.2, they keep their least widths, wherever they are.
func TestColumnsThatCannotGrow(t *testing.T) {
	fits(t, table(3, "W", "i i", "M"), 12+6+12+3, false, 12, 9, 12)
	fits(t, table(3, "i i", "W", "M"), 12+6+12+3, false, 9, 12, 12)
	fits(t, table(3, "M", "", "i i"), 12+4+6+3, false, 12, 4, 9)
	fits(t, table(4, "M", "i i", "", "i i"), 12+6+4+6+3, false, 12, 7, 4, 8)
	fits(t, table(4, "i i", "M", "i i", ""), 12+6+4+6+5, false, 8, 12, 9, 4)
	// None can grow: they have what they need, or the table is tight.
	fits(t, table(2, "W", "M"), 24, false, 12, 12)
	fits(t, table(2, "W", "M"), 25, false, 12, 12)
	fits(t, table(2, "W", "M"), 23, true, 11, 12)
}

// TestTight: P16.2, a room that is less than the least widths together is shared out evenly, whatever the cells have.
func TestTight(t *testing.T) {
	x := table(3, "W", "", "mmm mmm") // least 12 4 25
	fits(t, x, 41, false, 12, 4, 25)
	fits(t, x, 40, true, 13, 13, 14)
	fits(t, x, 39, true, 13, 13, 13)
	fits(t, x, 38, true, 12, 13, 13)
	fits(t, x, 2, true, 0, 1, 1)
	fits(t, x, 1, true, 0, 0, 1)
	fits(t, x, 0, true, 0, 0, 0)
	for cols := 1; cols <= 8; cols++ {
		x := filled(cols, cols, strings.Repeat("W", 200))
		for w := range 3 * cols {
			must := make([]int, cols)
			for i := range must {
				must[i] = w*(i+1)/cols - w*i/cols
			}
			fits(t, x, w, true, must...)
		}
	}
	fits(t, filled(8, 8, strings.Repeat("W", 200)), 4095, true, 511, 512, 512, 512, 512, 512, 512, 512)
	fits(t, filled(7, 7, strings.Repeat("W", 200)), 4095, true, 585, 585, 585, 585, 585, 585, 585)
	fits(t, filled(3, 3, strings.Repeat("W", 200)), 4094, true, 1364, 1365, 1365)
	fits(t, table(1, "W"), 11, true, 11)
	fits(t, table(1, "W"), 12, false, 12)
	fits(t, table(1, "W W"), 22, false, 22)
	fits(t, table(1, "W W"), 40, false, 23)
}

// TestEveryRoom: P16.3, all rooms of some tables: the widths keep their bounds.
func TestEveryRoom(t *testing.T) {
	for _, x := range []api.Table{two(), table(1, "a b c"), table(3, "a b", "mm mm", "W"), table(4, "", " ", "i i i i", strings.Repeat("a b ", 50)), filled(8, 16, "a bb ccc"), filled(5, 5, strings.Repeat("W", 100)+strings.Repeat(" i", 50))} {
		for w := range 4096 {
			kept(t, x, w)
		}
	}
}

// TestListsStayAsTheyWere: rule 4, a list that is handed in is not changed, and its spare room neither read nor written, nor what stands ahead of it in its memory.
func TestListsStayAsTheyWere(t *testing.T) {
	all := []string{"\x00", "ab c", "dd", "WWWW", strings.Repeat("a", 201)}
	was := slices.Clone(all)
	x := api.Table{Cols: 2, Cells: all[1:3]}
	for w := range 60 {
		grid.Check(x)
		grid.Least(x)
		grid.Most(x)
		grid.Widths(x, w-5)
		grid.Widths(api.Table{Cols: 1, Cells: all}, w)
		grid.Widths(api.Table{Cols: 3, Cells: all[1:4]}, w)
	}
	measured(t, x, []int{14, 14}, []int{22, 14})
	fits(t, x, 30, false, 16, 14)
	fits(t, x, 21, true, 10, 11)
	refused(t, api.Table{Cols: 1, Cells: all[1:1]})
	refused(t, api.Table{Cols: 3, Cells: all[1:3]})
	refused(t, api.Table{Cols: 2, Cells: all[0:2]})
	refused(t, api.Table{Cols: 2, Cells: all[3:5]})
	if !slices.Equal(all, was) {
		t.Errorf("%q have become %q", was, all)
	}
	many := slices.Repeat([]string{"a"}, 90)
	many[64] = "\n"
	may(t, api.Table{Cols: 8, Cells: many[:64]})
	refused(t, api.Table{Cols: 5, Cells: many[:65]})
}

// TestListsAreNotLookedAtLater: rule 4, what was answered stays, though the list that was handed in is written over.
func TestListsAreNotLookedAtLater(t *testing.T) {
	x := two()
	least, _ := grid.Least(x)
	most, _ := grid.Most(x)
	l, _, _ := grid.Widths(x, 30)
	x.Cells[0], x.Cells[1] = "WWWWW", "\n"
	if !slices.Equal(least, []int{14, 14}) || !slices.Equal(most, []int{22, 14}) || !slices.Equal(l, []int{16, 14}) {
		t.Error(least, most, l)
	}
	refused(t, x)
	x.Cells[1] = ""
	measured(t, x, []int{44, 4}, []int{44, 4})
}

// spend writes over a list, its spare room too.
func spend(l []int) {
	for i := range l[:cap(l)] {
		l[:cap(l)][i] = -99
	}
}

// TestAnswersMayBeWrittenOver: rule 4, each answer is new memory, its spare room too.
func TestAnswersMayBeWrittenOver(t *testing.T) {
	for range 3 {
		for _, x := range []api.Table{two(), filled(8, 64, "a bb"), filled(3, 9, "")} {
			measure := func() ([]int, []int, []int, []int, []int) {
				least, _ := grid.Least(x)
				most, _ := grid.Most(x)
				tight, _, _ := grid.Widths(x, 5)
				full, _, _ := grid.Widths(x, 4095)
				grown, _, _ := grid.Widths(x, 30)
				return least, most, tight, full, grown
			}
			a, b, c, d, e := measure()
			kept := slices.Concat(b, c, d, e)
			for i, l := range [][]int{a, b, c, d, e} {
				spend(l)
				if rest := slices.Concat(b, c, d, e); i == 0 && !slices.Equal(rest, kept) {
					t.Error("answers share memory")
				}
			}
			a, b, c, d, e = measure()
			if !slices.Equal(slices.Concat(b, c, d, e), kept) || len(a) != x.Cols {
				t.Error("an answer that is written over comes again")
			}
		}
	}
	p := grid.Cell("ab")
	p.Spans[0] = api.Span{Len: 7, C: api.Char{Size: 3}}
	p.P.Size = 9
	if again := grid.Cell("ab"); !slices.Equal(again.Spans, []api.Span{{Len: 2}}) || again.P.Size != 8 {
		t.Error(again)
	}
	measured(t, two(), []int{14, 14}, []int{22, 14})
}

// TestNothingIsKept: P1, what a call answers depends on its arguments alone: calls in whatever order answer the same.
func TestNothingIsKept(t *testing.T) {
	all := []api.Table{two(), filled(8, 64, "a bb"), table(1, ""), {}, table(1, "\n"), table(3, "W", "i i", "M"), table(3, "i i", "W", "M")}
	must := make([][]int, len(all))
	for i, x := range all {
		must[i], _, _ = grid.Widths(x, 33)
	}
	roll := chance(6)
	for range 500 {
		i, j := roll(len(all)), roll(len(all))
		grid.Widths(all[j], roll(60)-3)
		grid.Cell("abc")
		if l, _, _ := grid.Widths(all[i], 33); !slices.Equal(l, must[i]) {
			t.Fatal(i, l, must[i])
		}
	}
}

// TestSideBySide: P1, calls on one table from several goroutines answer the same.
func TestSideBySide(t *testing.T) {
	x := filled(8, 64, "a bb i")
	least, most := needs(x)
	var all sync.WaitGroup
	for i := range 8 {
		all.Go(func() {
			for w := range 40 {
				measured(t, x, least, most)
				must, tight := fitted(x, 20*w+i)
				fits(t, x, 20*w+i, tight, must...)
			}
		})
	}
	all.Wait()
}
