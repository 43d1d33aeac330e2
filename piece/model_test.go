package piece_test

import (
	"math"
	"testing"

	"quire/api"
	"quire/piece"
)

// cell is a byte of the model, and whether a piece begins with it.
type cell struct {
	b     byte
	first bool
}

// model is a text as plain as can be: byte by byte.
type model []cell

func (m model) text() string {
	var s []byte
	for _, c := range m {
		s = append(s, c.b)
	}
	return string(s)
}

func (m model) pieces() int {
	n := 0
	for _, c := range m {
		if c.first {
			n++
		}
	}
	return n
}

func (m model) insert(at int, s string) (model, api.Errno) {
	if at < 0 || at > len(m) {
		return m, api.ErrRange
	}
	if len(m)+len(s) > api.MaxText {
		return m, api.ErrFull
	}
	if s == "" {
		return m, api.OK
	}
	var out model
	out = append(out, m[:at]...)
	for i := range len(s) {
		out = append(out, cell{s[i], i == 0})
	}
	n := len(out)
	out = append(out, m[at:]...)
	if n < len(out) {
		out[n].first = true
	}
	return out, api.OK
}

func (m model) remove(at, n int) (model, api.Errno) {
	if at < 0 || n < 0 || at > len(m) || n > len(m)-at {
		return m, api.ErrRange
	}
	var out model
	out = append(out, m[:at]...)
	out = append(out, m[at+n:]...)
	if at < len(out) {
		out[at].first = true
	}
	return out, api.OK
}

func same(t *testing.T, x *piece.Text, m model) {
	t.Helper()
	is(t, x, m.text(), m.pieces())
	if t.Failed() {
		t.FailNow()
	}
}

// edit does one edit to a text and to its model: put is put in or, if it is empty, n bytes are taken out.
func edit(t *testing.T, x *piece.Text, m model, at, n int, put string) model {
	t.Helper()
	before := x.Pieces()
	var got, want api.Errno
	if put != "" {
		got = x.Insert(at, put)
		m, want = m.insert(at, put)
	} else {
		got = x.Delete(at, n)
		m, want = m.remove(at, n)
	}
	if got != want {
		t.Fatalf("at %d, %d, %q: %v, not %v", at, n, put, got, want)
	}
	if x.Pieces() > before+2 {
		t.Fatalf("at %d, %d, %q: from %d pieces to %d", at, n, put, before, x.Pieces())
	}
	same(t, x, m)
	return m
}

// All short sequences of edits at all places of a short text, and beside it (P1.2, P1.4, P2, P11).
func TestAllShortEdits(t *testing.T) {
	start, _ := model(nil).insert(0, "abc")
	var deeper func(x *piece.Text, m model, left int)
	deeper = func(x *piece.Text, m model, left int) {
		if left == 0 {
			return
		}
		for at := -1; at <= len(m)+1; at++ {
			for _, put := range []string{"x", "yz"} {
				y := x.Clone()
				deeper(y, edit(t, y, m, at, 0, put), left-1)
			}
			for n := -1; n <= len(m)+1; n++ {
				y := x.Clone()
				deeper(y, edit(t, y, m, at, n, ""), left-1)
			}
		}
		same(t, x, m)
	}
	deeper(make1(t, "abc"), start, 2)
}

// A long row of edits that the same numbers make each time, with clones kept beside.
func TestManyEdits(t *testing.T) {
	seed := uint32(1)
	next := func(n int) int {
		seed = seed*1664525 + 1013904223
		return int(seed>>8) % n
	}
	x := make1(t, "")
	var m, kept model
	aside := x.Clone()
	for i := range 3000 {
		put := ""
		if next(3) > 0 {
			for range 1 + next(9) {
				put += string(rune('a' + next(26)))
			}
		}
		m = edit(t, x, m, next(len(m)+2)-next(2), next(12), put)
		switch {
		case i%500 == 499:
			m = edit(t, x, m, 0, len(m)/2, "")
		case i%500 == 250:
			same(t, aside, kept)
			aside, kept = x.Clone(), m
		}
	}
	same(t, aside, kept)
}

// Byte, Find, Count and Slice tell the same of a text in many pieces as of the text in one.
func TestReadAcrossPieces(t *testing.T) {
	x := make1(t, "")
	var m model
	for i := range 60 {
		m = edit(t, x, m, i*7%(len(m)+1), 0, []string{"a", "bc", "dad"}[i%3])
	}
	all := m.text()
	one := make1(t, all)
	for i := -1; i <= len(all)+1; i++ {
		b, e := x.Byte(i)
		c, f := one.Byte(i)
		want(t, "Byte", b, c)
		want(t, "Byte", e, f)
		for _, b := range []byte("abcdz") {
			want(t, "Find", x.Find(b, i), one.Find(b, i))
		}
		s, e := x.Slice(i, i+5)
		u, f := one.Slice(i, i+5)
		want(t, "Slice", s, u)
		want(t, "Slice", e, f)
	}
	for _, b := range []byte("abcdz") {
		want(t, "Count", x.Count(b), one.Count(b))
	}
}

// As many pieces as there may be, one for each byte; then all are taken out, one by one.
func TestMostPieces(t *testing.T) {
	x := make1(t, "")
	for i := range api.MaxText {
		if e := x.Insert(i/2, "a"); e != api.OK {
			t.Fatal(i, e)
		}
	}
	is(t, x, most(), api.MaxText)
	want(t, "one more", x.Insert(9, "a"), api.ErrFull)
	is(t, x.Clone(), most(), api.MaxText)
	for x.Len() > 0 {
		if e := x.Delete(x.Len()/2, 1); e != api.OK {
			t.Fatal(x.Len(), e)
		}
	}
	is(t, x, "", 0)
}

// P1: wild arguments neither panic nor change anything.
func TestWildArguments(t *testing.T) {
	x := make1(t, "abcd")
	x.Insert(2, "XY")
	wild := []int{math.MinInt, math.MinInt + 1, math.MinInt32, -1, 7, math.MaxInt32, math.MaxInt - 1, math.MaxInt}
	for _, a := range wild {
		want(t, "Insert", x.Insert(a, "a"), api.ErrRange)
		_, e := x.Byte(a)
		want(t, "Byte", e, api.ErrRange)
		if a > 0 {
			want(t, "Find", x.Find('a', a), -1)
		} else {
			want(t, "Find", x.Find('a', a), 0)
		}
		for _, b := range wild {
			want(t, "Delete", x.Delete(a, b), api.ErrRange)
			_, e := x.Slice(a, b)
			want(t, "Slice", e, api.ErrRange)
		}
	}
	is(t, x, "abXYcd", 3)
}
