package span_test

import (
	"math"
	"slices"
	"testing"

	"quire/api"
	"quire/span"
)

// Three looks that may be, and one that may not.
var (
	a   = api.Char{Size: 10}
	b   = api.Char{Size: 12}
	c   = api.Char{Size: 10, Track: 3, Kern: 1}
	bad = api.Char{Size: 65}
)

// wild is numbers that are no place and no count of a short text.
var wild = []int{math.MinInt, math.MinInt + 1, math.MinInt32, -2, -1, 8, 4097, math.MaxInt32, math.MaxInt - 1, math.MaxInt}

func make1(t *testing.T, n int, c api.Char) *span.Looks {
	t.Helper()
	l, e := span.New(n, c)
	if e != api.OK || l == nil {
		t.Fatalf("New(%d, %v): %v, %v", n, c, l, e)
	}
	return l
}

// abba makes looks of the runs a 2, b 3, a 2.
func abba(t *testing.T) *span.Looks {
	t.Helper()
	l := make1(t, 7, a)
	want(t, "Set", l.Set(2, 3, b), api.OK)
	return l
}

func of(n int, c api.Char) api.Span { return api.Span{Len: n, C: c} }

func is(t *testing.T, l *span.Looks, want ...api.Span) {
	t.Helper()
	n := 0
	for _, s := range want {
		n += s.Len
	}
	s, e := l.Slice(0, n)
	if e != api.OK || !slices.Equal(s, want) || l.Len() != n {
		t.Errorf("the looks are %v (of %d bytes), not %v: %v", s, l.Len(), want, e)
	}
}

func want(t *testing.T, what string, got, want any) {
	t.Helper()
	if got != want {
		t.Errorf("%s: %v, not %v", what, got, want)
	}
}

// The examples of the chapter, row by row, on the same looks.
func TestExamples(t *testing.T) {
	l := make1(t, 4, a)
	want(t, "Set(1, 2, b)", l.Set(1, 2, b), api.OK)
	is(t, l, of(1, a), of(2, b), of(1, a))

	want(t, "Insert(3, 2)", l.Insert(3, 2), api.OK)
	want(t, "Insert(0, 1)", l.Insert(0, 1), api.OK)
	is(t, l, of(2, a), of(4, b), of(1, a))

	want(t, "Delete(0, 2)", l.Delete(0, 2), api.OK)
	want(t, "Delete(0, 5)", l.Delete(0, 5), api.OK)
	want(t, "Insert(0, 1)", l.Insert(0, 1), api.OK)
	x, e := l.At(0)
	want(t, "At(0)", x, a)
	want(t, "At(0)", e, api.OK)

	want(t, "Set(0, 1, {Size 65})", l.Set(0, 1, api.Char{Size: 65}), api.ErrArg)
	want(t, "Set(1, 1, a)", l.Set(1, 1, a), api.ErrRange)
	n, e := span.New(-1, a)
	want(t, "New(-1, a)", e, api.ErrRange)
	want(t, "New(-1, a) are no looks", n == nil, true)
	n, e = span.New(4097, a)
	want(t, "New(4097, a)", e, api.ErrFull)
	want(t, "New(4097, a) are no looks", n == nil, true)

	want(t, "Check(a 2, a 1; 3)", span.Check([]api.Span{of(2, a), of(1, a)}, 3), api.OK)
	want(t, "Check(a 2; 3)", span.Check([]api.Span{of(2, a)}, 3), api.ErrRange)
	want(t, "Check(a 0; 0)", span.Check([]api.Span{of(0, a)}, 0), api.ErrRange)
}

// P2.1: each number at its bounds and beside them, with the others at their bounds.
func TestMay(t *testing.T) {
	sizes := []int{math.MinInt, -1, 0, 1, 63, 64, 65, 66, 1 << 32, math.MaxInt}
	tracks := []int{math.MinInt, -1, 0, 1, 14, 15, 16, 17, 1 << 32, math.MaxInt}
	kerns := []int{math.MinInt, -1, 0, 1, 2, 3, 1 << 32, math.MaxInt}
	for _, size := range sizes {
		for _, track := range tracks {
			for _, kern := range kerns {
				x := api.Char{Size: size, Track: track, Kern: kern}
				may := size >= 0 && size <= 64 && track >= 0 && track <= 15 && (kern == 0 || kern == 1)
				want(t, "May", span.May(x), may)
				refusals(t, x, may)
			}
		}
	}
}

// refusals asks New, Set and Check what May tells.
func refusals(t *testing.T, x api.Char, may bool) {
	t.Helper()
	e := api.OK
	if !may {
		e = api.ErrArg
	}
	l, got := span.New(2, x)
	want(t, "New", got, e)
	want(t, "New's looks", l != nil, may)
	m := make1(t, 3, a)
	want(t, "Set", m.Set(1, 1, x), e)
	want(t, "Set of no bytes", m.Set(1, 0, x), e)
	at, _ := m.At(1)
	want(t, "how it looks", at == x, may)
	want(t, "Check", span.Check([]api.Span{of(1, a), of(2, x)}, 3), e)
}

// P2.1: no bytes, one, the most, one more; the order of the errors.
func TestNew(t *testing.T) {
	is(t, make1(t, 0, a))
	is(t, make1(t, 1, b), of(1, b))
	is(t, make1(t, 7, api.Char{}), of(7, api.Char{}))
	is(t, make1(t, 4096, c), of(4096, c))
	for _, x := range []struct {
		n    int
		c    api.Char
		want api.Errno
	}{
		{4097, a, api.ErrFull},
		{math.MaxInt, a, api.ErrFull},
		{-1, a, api.ErrRange},
		{math.MinInt, a, api.ErrRange},
		{-1, bad, api.ErrArg},
		{0, bad, api.ErrArg},
		{4096, bad, api.ErrArg},
		{4097, bad, api.ErrArg},
		{math.MaxInt, bad, api.ErrArg},
		{math.MinInt, bad, api.ErrArg},
	} {
		if l, e := span.New(x.n, x.c); e != x.want || l != nil {
			t.Errorf("New(%d, %v): %v, %v, not %v", x.n, x.c, l, e, x.want)
		}
	}
}

// P2.1: clones are the same and go their own ways; what is kept in mind goes with them.
func TestClone(t *testing.T) {
	x := abba(t)
	y := x.Clone()
	z := y.Clone()
	is(t, y, of(2, a), of(3, b), of(2, a))
	want(t, "Set in the first", x.Set(3, 1, c), api.OK)
	want(t, "Delete in the second", y.Delete(4, 3), api.OK)
	want(t, "Insert into the third", z.Insert(7, 2), api.OK)
	is(t, x, of(2, a), of(1, b), of(1, c), of(1, b), of(2, a))
	is(t, y, of(2, a), of(2, b))
	is(t, z, of(2, a), of(3, b), of(4, a))
	want(t, "Delete all of the second", y.Delete(0, 4), api.OK)
	w := y.Clone()
	is(t, w)
	want(t, "Insert into the emptied one's clone", w.Insert(0, 1), api.OK)
	is(t, w, of(1, b))
	is(t, y)
	v := make1(t, 0, c).Clone()
	want(t, "Insert into the empty one's clone", v.Insert(0, 2), api.OK)
	is(t, v, of(2, c))
	is(t, make1(t, 4096, a).Clone(), of(4096, a))
}

// P2.2, P2.4: at the beginning, at borders of two runs, in a run's midst, at the end; none at each.
func TestInsertPlaces(t *testing.T) {
	for _, x := range []struct {
		at, n int
		want  []api.Span
	}{
		{0, 2, []api.Span{of(4, a), of(3, b), of(2, a)}},
		{1, 2, []api.Span{of(4, a), of(3, b), of(2, a)}},
		{2, 2, []api.Span{of(4, a), of(3, b), of(2, a)}},
		{3, 2, []api.Span{of(2, a), of(5, b), of(2, a)}},
		{4, 1, []api.Span{of(2, a), of(4, b), of(2, a)}},
		{5, 2, []api.Span{of(2, a), of(5, b), of(2, a)}},
		{6, 2, []api.Span{of(2, a), of(3, b), of(4, a)}},
		{7, 2, []api.Span{of(2, a), of(3, b), of(4, a)}},
	} {
		l := abba(t)
		want(t, "Insert of no bytes", l.Insert(x.at, 0), api.OK)
		is(t, l, of(2, a), of(3, b), of(2, a))
		want(t, "Insert", l.Insert(x.at, x.n), api.OK)
		is(t, l, x.want...)
	}
}

// P2.2: into a text without bytes, new or emptied.
func TestInsertIntoNothing(t *testing.T) {
	l := make1(t, 0, c)
	want(t, "Insert of nothing into nothing", l.Insert(0, 0), api.OK)
	want(t, "Delete of nothing from nothing", l.Delete(0, 0), api.OK)
	want(t, "Set of nothing in nothing", l.Set(0, 0, b), api.OK)
	is(t, l)
	want(t, "Insert into nothing", l.Insert(0, 3), api.OK)
	is(t, l, of(3, c))
	want(t, "Set of the last", l.Set(2, 1, b), api.OK)
	want(t, "Delete of all", l.Delete(0, 3), api.OK)
	want(t, "Insert of nothing where all are gone", l.Insert(0, 0), api.OK)
	want(t, "Delete of nothing where all are gone", l.Delete(0, 0), api.OK)
	want(t, "Set of nothing where all are gone", l.Set(0, 0, a), api.OK)
	is(t, l)
	want(t, "Insert where all are gone", l.Insert(0, 2), api.OK)
	is(t, l, of(2, b))
}

// P2.2: the last one that was gone, in the text's order, counts: not the first one, not the first run's, not that of an earlier time.
func TestLastThatWasGone(t *testing.T) {
	for _, x := range []struct {
		steps [][2]int
		want  api.Char
	}{
		{[][2]int{{0, 5}}, c},
		{[][2]int{{4, 1}, {0, 4}}, b},
		{[][2]int{{2, 3}, {0, 2}}, a},
		{[][2]int{{0, 2}, {0, 3}}, c},
		{[][2]int{{2, 3}, {1, 1}, {0, 1}}, a},
		{[][2]int{{0, 4}, {0, 1}}, c},
		{[][2]int{{0, 2}, {2, 1}, {0, 2}}, b},
		{[][2]int{{0, 2}, {2, 1}, {0, 1}, {0, 1}, {0, 0}}, b},
	} {
		l := make1(t, 5, c)
		l.Set(0, 2, a)
		l.Set(2, 2, b)
		for _, s := range x.steps {
			want(t, "Delete", l.Delete(s[0], s[1]), api.OK)
		}
		is(t, l)
		want(t, "Insert", l.Insert(0, 1), api.OK)
		is(t, l, of(1, x.want))
	}
	l := make1(t, 1, a)
	for _, x := range []api.Char{b, c, a, c} {
		l.Set(0, 1, x)
		l.Delete(0, 1)
		l.Insert(0, 1)
		is(t, l, of(1, x))
	}
}

// P2.2, P11, rule 3: up to the limit and not above it; the order of the errors; what is refused changes nothing.
func TestInsertErrors(t *testing.T) {
	l := make1(t, 4090, a)
	l.Set(10, 5, b)
	want(t, "one too many", l.Insert(9, 7), api.ErrFull)
	is(t, l, of(10, a), of(5, b), of(4075, a))
	want(t, "as many as may be", l.Insert(12, 6), api.OK)
	for _, x := range []struct {
		at, n int
		want  api.Errno
	}{
		{0, 0, api.OK},
		{4096, 0, api.OK},
		{0, 1, api.ErrFull},
		{4096, 1, api.ErrFull},
		{12, 4096, api.ErrFull},
		{12, math.MaxInt, api.ErrFull},
		{0, -1, api.ErrRange},
		{12, math.MinInt, api.ErrRange},
		{-1, 0, api.ErrRange},
		{-1, 1, api.ErrRange},
		{4097, 0, api.ErrRange},
		{4097, math.MaxInt, api.ErrRange},
		{math.MinInt, math.MaxInt, api.ErrRange},
		{math.MaxInt, math.MaxInt, api.ErrRange},
		{math.MaxInt, math.MinInt, api.ErrRange},
		{math.MaxInt, -1, api.ErrRange},
	} {
		want(t, "Insert", l.Insert(x.at, x.n), x.want)
		is(t, l, of(10, a), of(11, b), of(4075, a))
	}
	m := make1(t, 0, b)
	want(t, "Insert of one too many", m.Insert(0, 4097), api.ErrFull)
	want(t, "Insert of the most", m.Insert(0, 4096), api.OK)
	is(t, m, of(4096, b))
	want(t, "Delete of one", m.Delete(4095, 1), api.OK)
	want(t, "Insert where one is gone", m.Insert(0, 1), api.OK)
	is(t, m, of(4096, b))
}

// P2.2, P2.4: of a 2, b 3, a 2; neighbours that come to look alike are one run.
func TestDeletePlaces(t *testing.T) {
	for _, x := range []struct {
		at, n int
		want  []api.Span
	}{
		{0, 0, []api.Span{of(2, a), of(3, b), of(2, a)}},
		{2, 0, []api.Span{of(2, a), of(3, b), of(2, a)}},
		{3, 0, []api.Span{of(2, a), of(3, b), of(2, a)}},
		{7, 0, []api.Span{of(2, a), of(3, b), of(2, a)}},
		{0, 1, []api.Span{of(1, a), of(3, b), of(2, a)}},
		{0, 2, []api.Span{of(3, b), of(2, a)}},
		{0, 3, []api.Span{of(2, b), of(2, a)}},
		{0, 5, []api.Span{of(2, a)}},
		{0, 7, nil},
		{1, 3, []api.Span{of(1, a), of(1, b), of(2, a)}},
		{1, 4, []api.Span{of(3, a)}},
		{1, 5, []api.Span{of(2, a)}},
		{2, 3, []api.Span{of(4, a)}},
		{3, 1, []api.Span{of(2, a), of(2, b), of(2, a)}},
		{3, 2, []api.Span{of(2, a), of(1, b), of(2, a)}},
		{3, 4, []api.Span{of(2, a), of(1, b)}},
		{5, 2, []api.Span{of(2, a), of(3, b)}},
		{6, 1, []api.Span{of(2, a), of(3, b), of(1, a)}},
	} {
		l := abba(t)
		want(t, "Delete", l.Delete(x.at, x.n), api.OK)
		is(t, l, x.want...)
	}
}

// P2.2, P2.4: of a 2, b 3, a 2; neighbours that come to look alike are one run; no bytes change nothing.
func TestSetPlaces(t *testing.T) {
	for _, x := range []struct {
		at, n int
		c     api.Char
		want  []api.Span
	}{
		{0, 0, b, []api.Span{of(2, a), of(3, b), of(2, a)}},
		{1, 0, c, []api.Span{of(2, a), of(3, b), of(2, a)}},
		{2, 0, c, []api.Span{of(2, a), of(3, b), of(2, a)}},
		{7, 0, c, []api.Span{of(2, a), of(3, b), of(2, a)}},
		{0, 1, c, []api.Span{of(1, c), of(1, a), of(3, b), of(2, a)}},
		{0, 2, b, []api.Span{of(5, b), of(2, a)}},
		{0, 2, a, []api.Span{of(2, a), of(3, b), of(2, a)}},
		{0, 7, a, []api.Span{of(7, a)}},
		{0, 7, c, []api.Span{of(7, c)}},
		{1, 2, b, []api.Span{of(1, a), of(4, b), of(2, a)}},
		{1, 5, c, []api.Span{of(1, a), of(5, c), of(1, a)}},
		{2, 3, a, []api.Span{of(7, a)}},
		{2, 3, c, []api.Span{of(2, a), of(3, c), of(2, a)}},
		{2, 1, a, []api.Span{of(3, a), of(2, b), of(2, a)}},
		{3, 1, a, []api.Span{of(2, a), of(1, b), of(1, a), of(1, b), of(2, a)}},
		{4, 1, a, []api.Span{of(2, a), of(2, b), of(3, a)}},
		{3, 1, b, []api.Span{of(2, a), of(3, b), of(2, a)}},
		{5, 2, b, []api.Span{of(2, a), of(5, b)}},
		{6, 1, api.Char{}, []api.Span{of(2, a), of(3, b), of(1, a), of(1, api.Char{})}},
	} {
		l := abba(t)
		want(t, "Set", l.Set(x.at, x.n, x.c), api.OK)
		is(t, l, x.want...)
	}
}

// Looks are alike if all of their numbers are.
func TestLooksThatDifferInOneNumber(t *testing.T) {
	for _, x := range []api.Char{{Size: 9, Track: 3, Kern: 1}, {Size: 10, Track: 2, Kern: 1}, {Size: 10, Track: 3}} {
		l := make1(t, 3, c)
		want(t, "Set", l.Set(1, 1, x), api.OK)
		is(t, l, of(1, c), of(1, x), of(1, c))
	}
}

// P2.2, rule 3: what is refused changes nothing; a place out of bounds is told ahead of a look that may not be.
func TestDeleteAndSetErrors(t *testing.T) {
	l := abba(t)
	pairs := [][2]int{{-1, 0}, {-1, 1}, {0, -1}, {7, -1}, {0, 8}, {1, 7}, {7, 1}, {8, 0}, {8, -1}, {1, math.MaxInt}, {7, math.MaxInt}, {1, math.MinInt}}
	for _, x := range wild {
		for _, y := range wild {
			pairs = append(pairs, [2]int{x, y})
		}
	}
	for _, p := range pairs {
		want(t, "Delete", l.Delete(p[0], p[1]), api.ErrRange)
		want(t, "Set", l.Set(p[0], p[1], c), api.ErrRange)
		want(t, "Set of what may not be", l.Set(p[0], p[1], bad), api.ErrRange)
		is(t, l, of(2, a), of(3, b), of(2, a))
	}
	want(t, "Set of what may not be", l.Set(1, 2, bad), api.ErrArg)
	want(t, "Set of no bytes to what may not be", l.Set(7, 0, bad), api.ErrArg)
	is(t, l, of(2, a), of(3, b), of(2, a))
	m := make1(t, 0, a)
	want(t, "Delete from nothing", m.Delete(0, 1), api.ErrRange)
	want(t, "Set in nothing", m.Set(0, 1, b), api.ErrRange)
	want(t, "Set of no bytes in nothing to what may not be", m.Set(0, 0, bad), api.ErrArg)
	m.Insert(0, 1)
	is(t, m, of(1, a))
}

// P2.3: each place, and what is out of bounds.
func TestAt(t *testing.T) {
	l := abba(t)
	for i, x := range []api.Char{a, a, b, b, b, a, a} {
		got, e := l.At(i)
		want(t, "At", got, x)
		want(t, "At", e, api.OK)
	}
	for _, i := range append([]int{7}, wild...) {
		got, e := l.At(i)
		want(t, "At", got, api.Char{})
		want(t, "At", e, api.ErrRange)
	}
	got, e := make1(t, 0, c).At(0)
	want(t, "At of nothing", got, api.Char{})
	want(t, "At of nothing", e, api.ErrRange)
	got, e = make1(t, 4096, c).At(4095)
	want(t, "At of the last", got, c)
	want(t, "At of the last", e, api.OK)
}

// P2.3: all pairs of places, and what is out of bounds.
func TestSlice(t *testing.T) {
	l := abba(t)
	each := []api.Char{a, a, b, b, b, a, a}
	for from := -2; from <= 9; from++ {
		for to := -2; to <= 9; to++ {
			s, e := l.Slice(from, to)
			if from < 0 || to < from || to > 7 {
				want(t, "Slice", e, api.ErrRange)
				want(t, "Slice", len(s), 0)
				continue
			}
			want(t, "Slice", e, api.OK)
			if w := runsOf(each[from:to]); !slices.Equal(s, w) {
				t.Errorf("Slice(%d, %d): %v, not %v", from, to, s, w)
			}
		}
	}
	for _, from := range wild {
		for _, to := range wild {
			s, e := l.Slice(from, to)
			want(t, "Slice", e, api.ErrRange)
			want(t, "Slice", len(s), 0)
		}
	}
	_, e := l.Slice(0, math.MaxInt)
	want(t, "Slice up to the greatest int", e, api.ErrRange)
	_, e = l.Slice(math.MinInt, 7)
	want(t, "Slice from the least int on", e, api.ErrRange)
	s, e := make1(t, 0, a).Slice(0, 0)
	want(t, "Slice of nothing", e, api.OK)
	want(t, "Slice of nothing", len(s), 0)
	is(t, l, of(2, a), of(3, b), of(2, a))
}

// P2.3: neighbours may be alike; a look that may not be is told ahead of all lengths; sums do not wrap round.
func TestCheck(t *testing.T) {
	const top = math.MaxInt
	for _, x := range []struct {
		l    []api.Span
		n    int
		want api.Errno
	}{
		{nil, 0, api.OK},
		{[]api.Span{}, 0, api.OK},
		{nil, 1, api.ErrRange},
		{nil, -1, api.ErrRange},
		{nil, math.MinInt, api.ErrRange},
		{nil, top, api.ErrRange},
		{[]api.Span{of(1, a)}, 1, api.OK},
		{[]api.Span{of(1, a)}, 0, api.ErrRange},
		{[]api.Span{of(1, a)}, 2, api.ErrRange},
		{[]api.Span{of(1, a)}, -1, api.ErrRange},
		{[]api.Span{of(1, a)}, math.MinInt, api.ErrRange},
		{[]api.Span{of(2, a), of(3, b), of(2, b)}, 7, api.OK},
		{[]api.Span{of(2, a), of(3, b), of(2, b)}, 6, api.ErrRange},
		{[]api.Span{of(2, a), of(3, b), of(2, b)}, 5, api.ErrRange},
		{[]api.Span{of(2, a), of(3, b), of(2, b)}, 8, api.ErrRange},
		{[]api.Span{of(4097, a)}, 4097, api.OK},
		{[]api.Span{of(top, a)}, top, api.OK},
		{[]api.Span{of(top-1, a), of(1, b)}, top, api.OK},
		{[]api.Span{of(2, a), of(0, a)}, 2, api.ErrRange},
		{[]api.Span{of(0, a), of(2, a)}, 2, api.ErrRange},
		{[]api.Span{of(3, a), of(-1, a)}, 2, api.ErrRange},
		{[]api.Span{of(-1, a), of(3, a)}, 2, api.ErrRange},
		{[]api.Span{of(-1, a)}, -1, api.ErrRange},
		{[]api.Span{of(math.MinInt, a)}, math.MinInt, api.ErrRange},
		{[]api.Span{of(math.MinInt, a), of(math.MinInt, a)}, 0, api.ErrRange},
		{[]api.Span{of(top, a), of(1, a)}, math.MinInt, api.ErrRange},
		{[]api.Span{of(top, a), of(top, a)}, -2, api.ErrRange},
		{[]api.Span{of(top, a), of(top, a), of(2, a)}, 0, api.ErrRange},
		{[]api.Span{of(top, a), of(top, a), of(3, a)}, 1, api.ErrRange},
		{[]api.Span{of(top, a), of(top, a)}, top, api.ErrRange},
		{[]api.Span{of(1, bad)}, 1, api.ErrArg},
		{[]api.Span{of(1, bad)}, 2, api.ErrArg},
		{[]api.Span{of(0, a), of(1, bad)}, 1, api.ErrArg},
		{[]api.Span{of(9, a), of(1, bad)}, 1, api.ErrArg},
		{[]api.Span{of(-1, bad), of(1, a)}, 0, api.ErrArg},
		{[]api.Span{of(1, a), of(1, api.Char{Track: 16}), of(1, a)}, 3, api.ErrArg},
		{[]api.Span{of(1, a), of(1, api.Char{Kern: 2})}, 2, api.ErrArg},
		{[]api.Span{of(1, api.Char{Size: -1}), of(1, a)}, 2, api.ErrArg},
		{[]api.Span{of(top, a), of(top, bad)}, 0, api.ErrArg},
	} {
		if e := span.Check(x.l, x.n); e != x.want {
			t.Errorf("Check(%v, %d): %v, not %v", x.l, x.n, e, x.want)
		}
	}
}

// Rule 5: Looks that are nil, or that neither New nor Clone made.
func TestNoLooks(t *testing.T) {
	copied := *abba(t)
	for _, l := range []*span.Looks{nil, {}, new(span.Looks), &copied} {
		for _, at := range append([]int{0, 1, 7}, wild...) {
			want(t, "Insert", l.Insert(at, 1), api.ErrNil)
			want(t, "Insert of nothing", l.Insert(at, 0), api.ErrNil)
			want(t, "Insert of too much", l.Insert(0, at), api.ErrNil)
			want(t, "Delete", l.Delete(at, at), api.ErrNil)
			want(t, "Delete of nothing", l.Delete(at, 0), api.ErrNil)
			want(t, "Set", l.Set(at, 0, a), api.ErrNil)
			want(t, "Set of what may not be", l.Set(at, 1, bad), api.ErrNil)
			x, e := l.At(at)
			want(t, "At", x, api.Char{})
			want(t, "At", e, api.ErrNil)
			s, e := l.Slice(at, at)
			want(t, "Slice", len(s), 0)
			want(t, "Slice", e, api.ErrNil)
		}
		want(t, "Len", l.Len(), 0)
		want(t, "Clone", l.Clone() == nil, true)
	}
}

// Rule 4: what was answered may be written anew, its spare room too: the looks stay, and so do other answers.
func TestSliceIsNewMemory(t *testing.T) {
	l := abba(t)
	one, _ := l.Slice(0, 7)
	two, _ := l.Slice(0, 7)
	m := l.Clone()
	scribble(one)
	is(t, l, of(2, a), of(3, b), of(2, a))
	is(t, m, of(2, a), of(3, b), of(2, a))
	if !slices.Equal(two, []api.Span{of(2, a), of(3, b), of(2, a)}) {
		t.Errorf("one answer is written into another one: %v", two)
	}
	three, _ := l.Slice(0, 7)
	l.Set(1, 5, c)
	l.Insert(0, 3)
	if !slices.Equal(three, []api.Span{of(2, a), of(3, b), of(2, a)}) {
		t.Errorf("an edit is written into an answer: %v", three)
	}
	none, _ := l.Slice(4, 4)
	scribble(none)
	is(t, l, of(4, a), of(5, c), of(1, a))
}

// Rule 4: the list that Check is handed stays as it was, behind its end too.
func TestCheckLeavesItsList(t *testing.T) {
	room := []api.Span{of(2, a), of(1, a), of(-5, bad), of(7, c)}
	kept := slices.Clone(room)
	want(t, "Check", span.Check(room[:2], 3), api.OK)
	want(t, "Check", span.Check(room[:2], 4), api.ErrRange)
	want(t, "Check", span.Check(room, 4), api.ErrArg)
	if !slices.Equal(room, kept) {
		t.Errorf("the list is %v, not %v", room, kept)
	}
}

// Edits behind a clone on both sides must not meet in spare room of one list.
func TestClonesShareNoRoom(t *testing.T) {
	x := make1(t, 5, a)
	x.Set(1, 1, b)
	x.Set(3, 1, b)
	y := x.Clone()
	for range 3 {
		x.Insert(5, 1)
		x.Set(5, 1, b)
		y.Insert(5, 1)
		y.Set(5, 1, c)
	}
	is(t, x, of(1, a), of(1, b), of(1, a), of(1, b), of(1, a), of(3, b))
	is(t, y, of(1, a), of(1, b), of(1, a), of(1, b), of(1, a), of(3, c))
}

func scribble(s []api.Span) {
	s = s[:cap(s)]
	for i := range s {
		s[i] = of(-1, bad)
	}
}
