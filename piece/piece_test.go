package piece_test

import (
	"math"
	"strings"
	"testing"
	"unsafe"

	"quire/api"
	"quire/piece"
)

// most is as many letters as a text may have.
func most() string { return strings.Repeat("a", api.MaxText) }

func make1(t *testing.T, s string) *piece.Text {
	t.Helper()
	x, e := piece.New(s)
	if e != api.OK || x == nil {
		t.Fatalf("New(%q): %v, %v", s, x, e)
	}
	return x
}

func is(t *testing.T, x *piece.Text, want string, pieces int) {
	t.Helper()
	if s, e := x.Slice(0, x.Len()); s != want || e != api.OK || x.Len() != len(want) {
		t.Errorf("the text is %q (%d bytes), not %q: %v", s, x.Len(), want, e)
	}
	if x.Pieces() != pieces {
		t.Errorf("%d pieces, not %d, of %q", x.Pieces(), pieces, want)
	}
}

func want(t *testing.T, what string, got, want any) {
	t.Helper()
	if got != want {
		t.Errorf("%s: %v, not %v", what, got, want)
	}
}

// The examples of the chapter, row by row, on one text.
func TestExamples(t *testing.T) {
	x := make1(t, "abcd")
	want(t, "Insert(2, XY)", x.Insert(2, "XY"), api.OK)
	s, e := x.Slice(0, 6)
	want(t, "Slice(0, 6)", s, "abXYcd")
	want(t, "Slice(0, 6)", e, api.OK)
	want(t, "Pieces", x.Pieces(), 3)

	want(t, "Delete(1, 4)", x.Delete(1, 4), api.OK)
	s, e = x.Slice(0, 2)
	want(t, "Slice(0, 2)", s, "ad")
	want(t, "Slice(0, 2)", e, api.OK)
	want(t, "Pieces", x.Pieces(), 2)

	want(t, "Insert(3, x)", x.Insert(3, "x"), api.ErrRange)
	want(t, "Insert(0, byte 7)", x.Insert(0, "\a"), api.ErrBytes)
	want(t, "Delete(1, 2)", x.Delete(1, 2), api.ErrRange)
	s, e = x.Slice(2, 1)
	want(t, "Slice(2, 1)", s, "")
	want(t, "Slice(2, 1)", e, api.ErrRange)

	want(t, "Find(d, 0)", x.Find('d', 0), 1)
	want(t, "Find(d, 2)", x.Find('d', 2), -1)
	want(t, "Count(a)", x.Count('a'), 1)
	b, e := x.Byte(2)
	want(t, "Byte(2)", b, byte(0))
	want(t, "Byte(2)", e, api.ErrRange)

	n, e := piece.New(strings.Repeat("a", 4097))
	want(t, "New of 4,097 letters", e, api.ErrFull)
	want(t, "New of 4,097 letters is no text", n == nil, true)
}

// P1.1: each byte, alone and among others, may stand or may not.
func TestBytesThatMayStand(t *testing.T) {
	others := map[int]bool{1: true, 2: true, 3: true, 4: true, 9: true, 10: true, 31: true}
	for i := range 256 {
		b := string([]byte{byte(i)})
		may := i >= 32 && i <= 126 || others[i]
		e := api.OK
		if !may {
			e = api.ErrBytes
		}
		for _, s := range []string{b, "a" + b, b + "a", "a" + b + "a"} {
			want(t, "May", piece.May(s), may)
			x, got := piece.New(s)
			want(t, "New", got, e)
			want(t, "New's text", x != nil, may)
			y := make1(t, "..")
			want(t, "Insert", y.Insert(1, s), e)
			if may {
				is(t, x, s, 1)
				is(t, y, "."+s+".", 3)
			} else {
				is(t, y, "..", 1)
			}
		}
	}
	want(t, "May of no bytes", piece.May(""), true)
	want(t, "May of more than fit", piece.May(most()+"a"), true)
}

// P1.1: no bytes, the most bytes, one more; ErrBytes is ahead of ErrFull.
func TestNew(t *testing.T) {
	is(t, make1(t, ""), "", 0)
	is(t, make1(t, "a"), "a", 1)
	is(t, make1(t, "a b\tc\nd\x1f\x01\x02\x03\x04"), "a b\tc\nd\x1f\x01\x02\x03\x04", 1)
	is(t, make1(t, most()), most(), 1)
	for s, want := range map[string]api.Errno{
		most() + "a":      api.ErrFull,
		most() + "\a":     api.ErrBytes,
		"\x7f" + most():   api.ErrBytes,
		most() + most():   api.ErrFull,
		"\xc3\xa4":        api.ErrBytes,
		"a\x00":           api.ErrBytes,
		"\r\n":            api.ErrBytes,
		most() + "\x1e\n": api.ErrBytes,
	} {
		if x, e := piece.New(s); e != want || x != nil {
			t.Errorf("New of %d bytes: %v, %v, not %v", len(s), x, e, want)
		}
	}
}

// P1.1: a clone is the same piece by piece, and goes its own way; so do clones of clones.
func TestClone(t *testing.T) {
	x := make1(t, "abcd")
	x.Insert(2, "XY")
	y := x.Clone()
	z := y.Clone()
	is(t, y, "abXYcd", 3)
	is(t, z, "abXYcd", 3)
	want(t, "Insert into the first", x.Insert(2, "1"), api.OK)
	want(t, "Delete from the second", y.Delete(3, 1), api.OK)
	want(t, "Insert into the third", z.Insert(5, "3"), api.OK)
	is(t, x, "ab1XYcd", 4)
	is(t, y, "abXcd", 3)
	is(t, z, "abXYc3d", 5)
	want(t, "Delete all of the second", y.Delete(0, 5), api.OK)
	is(t, y.Clone(), "", 0)
	is(t, make1(t, "").Clone(), "", 0)
	is(t, make1(t, most()).Clone(), most(), 1)
	is(t, x, "ab1XYcd", 4)
}

// Edits behind a clone on both sides must not meet in spare room of one list.
func TestClonesShareNoRoom(t *testing.T) {
	x := make1(t, "a")
	for range 5 {
		x.Insert(x.Len(), "b")
	}
	y := x.Clone()
	x.Insert(x.Len(), "x")
	y.Insert(y.Len(), "y")
	x.Insert(x.Len(), "x")
	y.Insert(y.Len(), "y")
	is(t, x, "abbbbbxx", 8)
	is(t, y, "abbbbbyy", 8)
}

// P1.2: at 0, at the length, at a border of two pieces, in a piece's midst.
func TestInsertPlaces(t *testing.T) {
	for _, c := range []struct {
		at     int
		s      string
		want   string
		pieces int
	}{
		{0, "x", "xabcd", 3},
		{4, "x", "abcdx", 3},
		{2, "x", "abxcd", 3},
		{1, "x", "axbcd", 4},
		{3, "xyz", "abcxyzd", 4},
		{0, "", "abcd", 2},
		{1, "", "abcd", 2},
		{2, "", "abcd", 2},
		{4, "", "abcd", 2},
	} {
		x := make1(t, "ab")
		x.Insert(2, "cd")
		want(t, "Insert", x.Insert(c.at, c.s), api.OK)
		is(t, x, c.want, c.pieces)
	}
	x := make1(t, "")
	want(t, "Insert of nothing into nothing", x.Insert(0, ""), api.OK)
	is(t, x, "", 0)
	want(t, "Insert into nothing", x.Insert(0, "ab"), api.OK)
	is(t, x, "ab", 1)
}

// P1.2, P11: up to the limit, not above it; and the order of the errors.
func TestInsertErrors(t *testing.T) {
	x := make1(t, most()[1:])
	want(t, "two too many", x.Insert(9, "bb"), api.ErrFull)
	is(t, x, most()[1:], 1)
	want(t, "as many as may be", x.Insert(9, "b"), api.OK)
	is(t, x, most()[:9]+"b"+most()[10:], 3)
	full, _ := x.Slice(0, x.Len())
	for _, c := range []struct {
		at   int
		s    string
		want api.Errno
	}{
		{0, "", api.OK},
		{api.MaxText, "", api.OK},
		{0, "c", api.ErrFull},
		{api.MaxText, "c", api.ErrFull},
		{5, most(), api.ErrFull},
		{5, "\a", api.ErrBytes},
		{5, most() + "\a", api.ErrBytes},
		{-1, "", api.ErrRange},
		{-1, "\a", api.ErrRange},
		{api.MaxText + 1, "", api.ErrRange},
		{api.MaxText + 1, most(), api.ErrRange},
		{math.MinInt, "c", api.ErrRange},
		{math.MaxInt, "c", api.ErrRange},
	} {
		want(t, "Insert", x.Insert(c.at, c.s), c.want)
		is(t, x, full, 3)
	}
	y := make1(t, "")
	want(t, "Insert of one too many", y.Insert(0, most()+"a"), api.ErrFull)
	want(t, "Insert of the most", y.Insert(0, most()), api.OK)
	is(t, y, most(), 1)
	want(t, "Delete of one", y.Delete(7, 1), api.OK)
	want(t, "Insert where one is gone", y.Insert(0, "z"), api.OK)
	is(t, y, "z"+most()[1:], 3)
}

// P1.2: of the pieces ab, cd, ef.
func TestDeletePlaces(t *testing.T) {
	for _, c := range []struct {
		at, n  int
		want   string
		pieces int
	}{
		{0, 1, "bcdef", 3},
		{0, 2, "cdef", 2},
		{0, 3, "def", 2},
		{0, 6, "", 0},
		{1, 1, "acdef", 3},
		{1, 4, "af", 2},
		{2, 2, "abef", 2},
		{2, 3, "abf", 2},
		{3, 1, "abcef", 3},
		{4, 2, "abcd", 2},
		{5, 1, "abcde", 3},
		{0, 0, "abcdef", 3},
		{2, 0, "abcdef", 3},
		{6, 0, "abcdef", 3},
	} {
		x := make1(t, "ab")
		x.Insert(2, "cd")
		x.Insert(4, "ef")
		want(t, "Delete", x.Delete(c.at, c.n), api.OK)
		is(t, x, c.want, c.pieces)
	}
	x := make1(t, "abcd")
	want(t, "Delete in the midst of one piece", x.Delete(1, 2), api.OK)
	is(t, x, "ad", 2)
}

// P1.2: pieces are cut at both ends, also where these are one place.
func TestDeleteOfNoBytesCuts(t *testing.T) {
	x := make1(t, "abcd")
	want(t, "Delete", x.Delete(2, 0), api.OK)
	is(t, x, "abcd", 2)
	want(t, "Delete", x.Delete(2, 0), api.OK)
	is(t, x, "abcd", 2)
}

// P1.2, rule 3: what is refused changes nothing.
func TestDeleteErrors(t *testing.T) {
	x := make1(t, "abcd")
	x.Insert(2, "XY")
	for _, c := range [][2]int{
		{-1, 0}, {-1, 1}, {0, -1}, {6, -1}, {0, 7}, {1, 6}, {6, 1}, {7, 0}, {7, -1},
		{math.MinInt, 0}, {math.MaxInt, 0}, {math.MinInt, math.MinInt}, {math.MaxInt, math.MaxInt},
		{1, math.MaxInt}, {6, math.MaxInt}, {1, math.MinInt}, {-1, math.MaxInt}, {math.MinInt, math.MaxInt}, {math.MaxInt, 1},
	} {
		want(t, "Delete", x.Delete(c[0], c[1]), api.ErrRange)
		is(t, x, "abXYcd", 3)
	}
}

// P1.3: all pairs of places, and what is out of bounds.
func TestSlice(t *testing.T) {
	x := make1(t, "abcd")
	x.Insert(2, "XY")
	const all = "abXYcd"
	for from := -2; from <= 8; from++ {
		for to := -2; to <= 8; to++ {
			s, e := x.Slice(from, to)
			if from < 0 || to < from || to > 6 {
				want(t, "Slice", e, api.ErrRange)
				want(t, "Slice", s, "")
				continue
			}
			want(t, "Slice", e, api.OK)
			want(t, "Slice", s, all[from:to])
		}
	}
	for _, c := range [][2]int{
		{math.MinInt, math.MaxInt}, {math.MinInt, 0}, {0, math.MaxInt}, {math.MaxInt, math.MaxInt}, {math.MinInt, math.MinInt}, {6, math.MinInt}, {7, 7},
	} {
		s, e := x.Slice(c[0], c[1])
		want(t, "Slice", e, api.ErrRange)
		want(t, "Slice", s, "")
	}
	s, e := make1(t, "").Slice(0, 0)
	want(t, "Slice of nothing", s, "")
	want(t, "Slice of nothing", e, api.OK)
	is(t, x, all, 3)
}

// P1.3: each place, and what is out of bounds.
func TestByte(t *testing.T) {
	x := make1(t, "abcd")
	x.Insert(2, "XY")
	for i, c := range []byte("abXYcd") {
		b, e := x.Byte(i)
		want(t, "Byte", b, c)
		want(t, "Byte", e, api.OK)
	}
	for _, i := range []int{-1, 6, 7, math.MinInt, math.MaxInt} {
		b, e := x.Byte(i)
		want(t, "Byte", b, byte(0))
		want(t, "Byte", e, api.ErrRange)
	}
	_, e := make1(t, "").Byte(0)
	want(t, "Byte of nothing", e, api.ErrRange)
	is(t, x, "abXYcd", 3)
}

// P1.3: the first place from each place on, across pieces.
func TestFind(t *testing.T) {
	x := make1(t, "abca")
	x.Insert(2, "ba")
	const all = "abbaca"
	for b := range 256 {
		for from := -2; from <= 8; from++ {
			w := -1
			if i := max(from, 0); i <= len(all) {
				if w = strings.IndexByte(all[i:], byte(b)); w >= 0 {
					w += i
				}
			}
			if got := x.Find(byte(b), from); got != w {
				t.Errorf("Find(%d, %d): %d, not %d", b, from, got, w)
			}
		}
	}
	want(t, "Find from the least int on", x.Find('b', math.MinInt), 1)
	want(t, "Find from the least int on, past a border", x.Find('c', math.MinInt), 4)
	want(t, "Find from the greatest int on", x.Find('b', math.MaxInt), -1)
	want(t, "Find in nothing", make1(t, "").Find('a', 0), -1)
	is(t, x, all, 3)
}

// P1.3: in all pieces; bytes that may not stand too.
func TestCount(t *testing.T) {
	x := make1(t, "abca\n")
	x.Insert(2, "ba")
	for b := range 256 {
		if got, w := x.Count(byte(b)), strings.Count("abbaca\n", string([]byte{byte(b)})); got != w {
			t.Errorf("Count(%d): %d, not %d", b, got, w)
		}
	}
	want(t, "Count in nothing", make1(t, "").Count('a'), 0)
	want(t, "Count of the most", make1(t, most()).Count('a'), api.MaxText)
	is(t, x, "abbaca\n", 3)
}

// Rule 5: of a Text that is nil, or that neither New nor Clone made.
func TestNoText(t *testing.T) {
	copied := *make1(t, "abc")
	for _, x := range []*piece.Text{nil, {}, new(piece.Text), &copied} {
		for _, at := range []int{0, 1, -1, math.MinInt, math.MaxInt} {
			want(t, "Insert", x.Insert(at, "a"), api.ErrNil)
			want(t, "Insert of what may not stand", x.Insert(at, "\a"), api.ErrNil)
			want(t, "Insert of too much", x.Insert(at, most()+"a"), api.ErrNil)
			want(t, "Insert of nothing", x.Insert(at, ""), api.ErrNil)
			want(t, "Delete", x.Delete(at, at), api.ErrNil)
			want(t, "Delete of nothing", x.Delete(at, 0), api.ErrNil)
			s, e := x.Slice(at, at)
			want(t, "Slice", s, "")
			want(t, "Slice", e, api.ErrNil)
			b, e := x.Byte(at)
			want(t, "Byte", b, byte(0))
			want(t, "Byte", e, api.ErrNil)
			want(t, "Find", x.Find('a', at), -1)
		}
		want(t, "Count", x.Count('a'), 0)
		want(t, "Len", x.Len(), 0)
		want(t, "Pieces", x.Pieces(), 0)
		want(t, "Clone", x.Clone() == nil, true)
	}
}

// P1.4: what is put in and taken out again leaves the text as it was; pieces stay cut.
func TestPutInAndTakenOut(t *testing.T) {
	for at := range 5 {
		x := make1(t, "abcd")
		want(t, "Insert", x.Insert(at, "XYZ"), api.OK)
		s, _ := x.Slice(at, at+3)
		want(t, "what was put in", s, "XYZ")
		want(t, "Delete", x.Delete(at, 3), api.OK)
		pieces := 2
		if at == 0 || at == 4 {
			pieces = 1
		}
		is(t, x, "abcd", pieces)
	}
}

// Rule 4: what was handed in may be written anew, and what was answered too: the text stays.
func TestMemory(t *testing.T) {
	at := func(s []byte) string { return unsafe.String(&s[0], len(s)) }
	one, two := []byte("abcd"), []byte("XY")
	x := make1(t, at(one))
	want(t, "Insert", x.Insert(2, at(two)), api.OK)
	copy(one, "....")
	copy(two, "..")
	is(t, x, "abXYcd", 3)
	for _, c := range [][2]int{{0, 6}, {0, 2}, {2, 4}, {3, 6}} {
		s, _ := x.Slice(c[0], c[1])
		again, _ := x.Slice(c[0], c[1])
		if unsafe.StringData(s) == unsafe.StringData(again) {
			t.Errorf("Slice(%d, %d) hands out the same memory twice", c[0], c[1])
		}
		b := unsafe.Slice(unsafe.StringData(s), len(s))
		copy(b, "......")
		is(t, x, "abXYcd", 3)
	}
}
