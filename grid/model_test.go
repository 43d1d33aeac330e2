package grid_test

import (
	"slices"
	"strings"
	"testing"

	"quire/api"
	"quire/grid"
)

// chance tells numbers that look like chance, the same ones each time.
func chance(seed uint32) func(n int) int {
	return func(n int) int {
		seed = seed*1664525 + 1013904223
		return int(seed>>8) % n
	}
}

// outOf tells whether a number is not between two.
func outOf(n, least, most int) bool { return n < least || n > most }

// eighths are the bytes of each em, as the model has them: of size 8 a byte is as wide as its em.
func eighths() map[int]string {
	return map[int]string{
		2: "ijl'.,:;!|",
		3: "ftr()[]{}-\"^_~` I",
		7: "mw",
		8: "MW",
		5: "abcdeghknopqsuvxyz0123456789",
		6: "ABCDEFGHJKLNOPQRSTUVXYZ#$%&*+/<=>?@\\",
	}
}

// ems are the ems of all bytes.
var ems = func() (out [256]int) {
	for em, bytes := range eighths() {
		for i := range len(bytes) {
			out[bytes[i]] = em
		}
	}
	return out
}()

// wide tells how wide a text is in a cell, as the model has it: byte by byte, accents behind a letter left out, two at most.
func wide(text string) int {
	sum, accents := 0, 2
	for i := range len(text) {
		c := text[i]
		if strings.IndexByte("^`~", c) >= 0 && accents < 2 {
			accents++
			continue
		}
		accents = 2
		if c >= 'a' && c <= 'z' || c >= 'A' && c <= 'Z' {
			accents = 0
		}
		sum += ems[c]
	}
	return sum
}

// mayBe tells whether a table may be, as the model has it.
func mayBe(t api.Table) bool {
	if outOf(t.Cols, 1, 8) || outOf(len(t.Cells), 1, 64) || len(t.Cells)/t.Cols*t.Cols != len(t.Cells) {
		return false
	}
	for _, c := range t.Cells {
		if len(c) > 200 || strings.IndexFunc(c, func(r rune) bool { return outOf(int(r), 32, 126) }) >= 0 {
			return false
		}
	}
	return true
}

// needs tells the columns' least and greatest widths, as the model has them: each cell goes to its column.
func needs(t api.Table) (least, most []int) {
	least, most = slices.Repeat([]int{4}, t.Cols), slices.Repeat([]int{4}, t.Cols)
	for i, c := range t.Cells {
		at := i % t.Cols
		most[at] = max(most[at], 4+wide(c))
		for word := range strings.SplitSeq(c, " ") {
			least[at] = max(least[at], 4+wide(word))
		}
	}
	return least, most
}

// sum tells how much numbers are together.
func sum(l []int) int {
	all := 0
	for _, n := range l {
		all += n
	}
	return all
}

// first tells how much the first columns have together of a room, as the model has it: as many units as are not above their part.
func first(room, part, of int) int {
	n := 0
	for n < room && (n+1)*of <= room*part {
		n++
	}
	return n
}

// fitted tells the widths for w, as the model has them.
func fitted(t api.Table, w int) ([]int, bool) {
	least, most := needs(t)
	if sum(most) <= w {
		return most, false
	}
	tight := sum(least) > w
	together := []int{0}
	for k := 1; k <= t.Cols; k++ {
		if tight {
			together = append(together, first(w, k, t.Cols))
			continue
		}
		grown := first(w-sum(least), sum(most[:k])-sum(least[:k]), sum(most)-sum(least))
		together = append(together, sum(least[:k])+grown)
	}
	out := make([]int, t.Cols)
	for i := range out {
		out[i] = together[i+1] - together[i]
	}
	return out, tight
}

// compare holds all calls against the model.
func compare(t *testing.T, x api.Table, w int) {
	t.Helper()
	if !mayBe(x) {
		refused(t, x)
		return
	}
	least, most := needs(x)
	measured(t, x, least, most)
	if outOf(w, 0, 4095) {
		unfitted(t, x, w, api.ErrRange)
		return
	}
	must, tight := fitted(x, w)
	fits(t, x, w, tight, must...)
	kept(t, x, w)
}

// kept tells whether the widths for w are what the chapter says that follows.
func kept(t *testing.T, x api.Table, w int) {
	t.Helper()
	l, tight, e := grid.Widths(x, w)
	if len(l) != x.Cols || e != api.OK || sum(l) > w {
		t.Errorf("widths of %v for %d: %v, %v, %v", x, w, l, tight, e)
		return
	}
	least, _ := grid.Least(x)
	most, _ := grid.Most(x)
	if sum(most) > w && sum(l) != w || tight != (sum(least) > w) {
		t.Errorf("widths of %v for %d: %v, %v, between %v and %v", x, w, l, tight, least, most)
	}
	for i := range l {
		if l[i] < 0 || !tight && outOf(l[i], least[i], most[i]) {
			t.Errorf("widths of %v for %d: %v, %v, between %v and %v", x, w, l, tight, least, most)
		}
	}
}

// TestModelItself: the model does as the chapter's examples say.
func TestModelItself(t *testing.T) {
	if least, most := needs(two()); !slices.Equal(least, []int{14, 14}) || !slices.Equal(most, []int{22, 14}) {
		t.Error(least, most)
	}
	for w, must := range map[int][]int{50: {22, 14}, 36: {22, 14}, 30: {16, 14}, 28: {14, 14}, 21: {10, 11}} {
		if l, tight := fitted(two(), w); !slices.Equal(l, must) || tight != (w == 21) {
			t.Error(w, l, tight)
		}
	}
	all := 0
	for em, bytes := range eighths() {
		all += len(bytes)
		if em < 2 || em > 8 {
			t.Error(em, bytes)
		}
	}
	if all != 95 {
		t.Error(all)
	}
}

// texts makes all texts of up to so many of these bytes.
func texts(bytes string, most int) []string {
	out := []string{""}
	for from := 0; most > 0; most-- {
		to := len(out)
		for _, ahead := range out[from:to] {
			for i := range len(bytes) {
				out = append(out, ahead+bytes[i:i+1])
			}
		}
		from = to
	}
	return out
}

// TestAllShortCells: P16.2, all texts of up to five bytes of a letter, an accent, a sign and a blank.
func TestAllShortCells(t *testing.T) {
	for _, text := range texts("m~1 ", 5) {
		compare(t, api.Table{Cols: 1, Cells: []string{text}}, 12)
	}
}

// TestAllShortTables: P16.2 and P16.3, all tables of one row of up to three cells and of two rows of up to two, of short texts, for rooms from nothing to more than they need.
func TestAllShortTables(t *testing.T) {
	some := []string{"", "i", "m i", "W", "i j l", " "}
	for _, a := range some {
		for _, b := range some {
			for _, c := range some {
				for w := 0; w < 44; w += 1 + w%3 {
					compare(t, api.Table{Cols: 3, Cells: []string{a, b, c}}, w)
					compare(t, api.Table{Cols: 2, Cells: []string{a, b, c, a}}, w)
					compare(t, api.Table{Cols: 2, Cells: []string{a, b}}, w)
				}
			}
		}
	}
}

// mixed makes a text of a cell.
func mixed(roll func(n int) int) string {
	n := []int{0, roll(6), roll(40), 195 + roll(6)}[roll(4)]
	blanks := 1 + roll(8)
	var out []byte
	for len(out) < n {
		c := byte(32 + roll(95))
		switch {
		case roll(blanks) == 0:
			c = ' '
		case roll(6) == 0:
			c = "^`~"[roll(3)]
		}
		out = append(out, c)
	}
	return string(out)
}

// spoil makes something of a table so that it may not be, mostly.
func spoil(roll func(n int) int, x *api.Table) {
	at := roll(len(x.Cells))
	switch roll(5) {
	case 0:
		x.Cols = roll(12) - 1
	case 1:
		x.Cells = x.Cells[:at]
	case 2:
		x.Cells = append(x.Cells, x.Cells[at])
	case 3:
		x.Cells[at] += string([]byte{[]byte{0, 9, 10, 30, 31, 32, 126, 127, 128, 255}[roll(10)]})
	case 4:
		x.Cells[at] += strings.Repeat("a ", 100)
	}
}

// TestModel: P16.1 to P16.3, many tables with many rooms.
func TestModel(t *testing.T) {
	roll := chance(16)
	for range 300 {
		x := api.Table{Cols: 1 + roll(8)}
		for range x.Cols * (1 + roll([]int{1, 3, 64 / x.Cols}[roll(3)])) {
			x.Cells = append(x.Cells, mixed(roll))
		}
		if roll(8) == 0 {
			spoil(roll, &x)
		}
		rooms := []int{roll(60), roll(600), roll(4096), 4095 + roll(3), -roll(3)}
		if mayBe(x) {
			least, most := needs(x)
			rooms = append(rooms, sum(least)-1, sum(least), sum(least)+1, sum(most)-1, sum(most), sum(most)+1, (sum(least)+sum(most))/2)
		}
		for _, w := range rooms {
			compare(t, x, w)
		}
	}
}
