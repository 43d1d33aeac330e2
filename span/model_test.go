package span_test

import (
	"slices"
	"testing"

	"quire/api"
	"quire/span"
)

// model is looks as plain as can be: byte by byte, and what is kept in mind.
type model struct {
	each []api.Char
	last api.Char
}

// runsOf puts equal neighbours together.
func runsOf(each []api.Char) []api.Span {
	var out []api.Span
	for i, c := range each {
		if i > 0 && c == each[i-1] {
			out[len(out)-1].Len++
		} else {
			out = append(out, api.Span{Len: 1, C: c})
		}
	}
	return out
}

func (m model) insert(at, n int) (model, api.Errno) {
	if n < 0 || at < 0 || at > len(m.each) {
		return m, api.ErrRange
	}
	if len(m.each)+n > api.MaxText {
		return m, api.ErrFull
	}
	look := m.last
	if at > 0 {
		look = m.each[at-1]
	} else if len(m.each) > 0 {
		look = m.each[0]
	}
	return model{slices.Insert(slices.Clone(m.each), at, slices.Repeat([]api.Char{look}, n)...), m.last}, api.OK
}

func (m model) remove(at, n int) (model, api.Errno) {
	if at < 0 || n < 0 || at+n > len(m.each) {
		return m, api.ErrRange
	}
	out := model{slices.Delete(slices.Clone(m.each), at, at+n), m.last}
	if len(out.each) == 0 && n > 0 {
		out.last = m.each[n-1]
	}
	return out, api.OK
}

func (m model) set(at, n int, c api.Char) (model, api.Errno) {
	if at < 0 || n < 0 || at+n > len(m.each) {
		return m, api.ErrRange
	}
	out := model{slices.Clone(m.each), m.last}
	for i := range n {
		out.each[at+i] = c
	}
	return out, api.OK
}

// same tells whether looks and model are the same, also where the next bytes would be put in.
func same(t *testing.T, l *span.Looks, m model) {
	t.Helper()
	is(t, l, runsOf(m.each)...)
	for i, c := range m.each {
		if got, e := l.At(i); got != c || e != api.OK {
			t.Errorf("byte %d: %v, %v, not %v", i, got, e, c)
		}
	}
	if s, _ := l.Slice(0, l.Len()); span.Check(s, l.Len()) != api.OK {
		t.Errorf("%v may not be", s)
	}
	if t.Failed() {
		t.FailNow()
	}
}

// What an edit does: bytes put in, bytes taken out, or bytes that look as the rest says.
const (
	puts = iota
	takes
	sets
)

// edit does one edit to looks and to their model.
func edit(t *testing.T, l *span.Looks, m model, what, at, n int) model {
	t.Helper()
	var got, want api.Errno
	switch what {
	case puts:
		got = l.Insert(at, n)
		m, want = m.insert(at, n)
	case takes:
		got = l.Delete(at, n)
		m, want = m.remove(at, n)
	default:
		look := []api.Char{a, b, c}[what-sets]
		got = l.Set(at, n, look)
		m, want = m.set(at, n, look)
	}
	if got != want {
		t.Fatalf("edit %d at %d, %d: %v, not %v", what, at, n, got, want)
	}
	return m
}

// All short sequences of edits at all places of short looks, and beside them (P2.2, P2.3, P2.4, P11).
func TestAllShortEdits(t *testing.T) {
	var deeper func(l *span.Looks, m model, left int)
	deeper = func(l *span.Looks, m model, left int) {
		same(t, l, m)
		if left == 0 {
			return
		}
		for what := range sets + 3 {
			for at := -1; at <= len(m.each)+1; at++ {
				for n := -1; n <= min(len(m.each)+1, 4); n++ {
					k := l.Clone()
					deeper(k, edit(t, k, m, what, at, n), left-1)
				}
			}
		}
		same(t, l, m)
	}
	for n, left := range []int{3, 3, 2, 2} {
		deeper(make1(t, n, a), model{slices.Repeat([]api.Char{a}, n), a}, left)
	}
}

// A long row of edits that the same numbers make each time, with clones kept beside; now and then all is taken out.
func TestManyEdits(t *testing.T) {
	seed := uint32(1)
	next := func(n int) int {
		seed = seed*1664525 + 1013904223
		return int(seed>>8) % n
	}
	l, m := make1(t, 0, c), model{nil, c}
	aside, kept := l.Clone(), m
	for i := range 4000 {
		m = edit(t, l, m, next(sets+3), next(len(m.each)+2)-next(2), next(9))
		if i%100 == 50 {
			same(t, aside, kept)
			aside, kept = l.Clone(), m
		}
		if i%300 == 299 {
			m = edit(t, l, m, takes, 0, len(m.each))
		}
		same(t, l, m)
	}
	same(t, aside, kept)
}

// As many runs as there may be, one for each byte; then they are joined again, and taken out.
func TestMostRuns(t *testing.T) {
	l, m := make1(t, 4096, a), model{slices.Repeat([]api.Char{a}, 4096), a}
	for i := 1; i < 4096; i += 2 {
		if e := l.Set(i, 1, b); e != api.OK {
			t.Fatal(i, e)
		}
		m.each[i] = b
	}
	same(t, l, m)
	same(t, l.Clone(), m)
	want(t, "one more", l.Insert(9, 1), api.ErrFull)
	k := l.Clone()
	for i := 0; i < 4096; i += 2 {
		if e := k.Set(i, 1, b); e != api.OK {
			t.Fatal(i, e)
		}
	}
	is(t, k, of(4096, b))
	same(t, l, m)
	for l.Len() > 0 {
		if e := l.Delete(l.Len()/2, (l.Len()+15)/16); e != api.OK {
			t.Fatal(l.Len(), e)
		}
	}
	is(t, l)
	want(t, "Insert", l.Insert(0, 4096), api.OK)
	is(t, l, of(4096, a))
}
