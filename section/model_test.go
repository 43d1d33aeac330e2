package section_test

import (
	"slices"
	"testing"

	"quire/api"
	"quire/section"
)

// chance tells numbers that look like chance, the same ones each time.
func chance(seed uint32) func(n int) int {
	return func(n int) int {
		seed = seed*1664525 + 1013904223
		return int(seed>>8) % n
	}
}

// some makes a section, most of which may be; now and then one number or text is wrong.
func some(next func(n int) int) api.Section {
	s := api.Section{
		W: 1 + next(600), H: 1 + next(300), Top: next(60), Bottom: next(60), Inner: next(60), Outer: next(60),
		Cols: 1 + next(8), Gap: next(20), Start: next(3), Balance: next(2), Mirror: next(2),
	}
	for _, x := range texts(&s) {
		if next(3) == 0 {
			*x = []string{"x", "\x03", "a b"}[next(3)]
		}
	}
	if next(8) == 0 {
		p := parts()[next(len(parts()))]
		*p.of(&s) = []int{p.least - 1, p.least, p.most, p.most + 1}[next(4)]
	}
	if next(8) == 0 {
		*texts(&s)[next(6)] = []string{"\n", "\x7f", string(make([]byte, 101)), string(make([]byte, 100))}[next(4)]
	}
	return s
}

// may tells why a section may not be, as the chapter's words go.
func may(s api.Section) api.Errno {
	for _, p := range parts() {
		if n := *p.of(&s); n < p.least || n > p.most {
			return p.why
		}
	}
	// As many columns of the least size as there are, with what stands between and around them.
	need := s.Inner + s.Outer
	for i := range s.Cols {
		if i > 0 {
			need += s.Gap
		}
		need += 10
	}
	if need > s.W || s.Top+20+s.Bottom > s.H {
		return api.ErrRange
	}
	for _, x := range texts(&s) {
		if len(*x) > 100 {
			return api.ErrLong
		}
	}
	for _, x := range texts(&s) {
		if slices.ContainsFunc([]byte(*x), func(b byte) bool { return b != 3 && (b < 32 || b > 126) }) {
			return api.ErrBytes
		}
	}
	return api.OK
}

// greatest tells the greatest width that columns may have, by growing it.
func greatest(s api.Section) int {
	w := 0
	for s.Inner+s.Outer+s.Cols*(w+1)+(s.Cols-1)*s.Gap <= s.W {
		w++
	}
	return w
}

// compare holds all that is told of a section's page against the model.
func compare(t *testing.T, s api.Section, page int) {
	t.Helper()
	why := may(s)
	want(t, "check", section.Check(s), why)
	n, e := section.Begin(s, page)
	if why == api.OK && (page < 0 || page > 4096) {
		why = api.ErrRange
	}
	if why == api.OK {
		must := page + 1
		for s.Start == 1 && must%2 != 1 || s.Start == 2 && must%2 != 0 {
			must++
		}
		begins(t, s, page, must)
	} else if n != 0 || e != why {
		t.Errorf("begin of %+v behind %d: %d, %v, not %v", s, page, n, e, why)
	}
	if why == api.OK && page == 0 {
		why = api.ErrRange
	}
	if why != api.OK {
		untold(t, "wrong", s, page, why)
		return
	}
	inPlane(t, s, page)
}

// inPlane tells whether a page's columns, header and footer lie as P5.4 asks.
func inPlane(t *testing.T, s api.Section, page int) {
	t.Helper()
	left, right := s.Inner, s.Outer
	if s.Mirror == 1 && page%2 == 0 {
		left, right = right, left
	}
	got, e := section.Columns(s, page)
	if e != api.OK || len(got) != s.Cols {
		t.Fatalf("columns of page %d of %+v: %v, %v", page, s, got, e)
	}
	x := left
	for _, c := range got {
		want(t, "column", c, api.Rect{X: x, Y: s.Top, W: greatest(s), H: s.H - s.Top - s.Bottom})
		if c.X < left || c.X+c.W > s.W-right || c.Y < s.Top || c.Y+c.H > s.H-s.Bottom || c.W < 10 || c.H < 20 {
			t.Errorf("column %v of page %d of %+v is not between the margins", c, page, s)
		}
		x += c.W + s.Gap
	}
	for i, a := range got {
		for _, b := range got[i+1:] {
			if a.X+a.W > b.X {
				t.Errorf("columns %v and %v of page %d of %+v overlap", a, b, page, s)
			}
		}
	}
	last := got[len(got)-1]
	head, e := section.Head(s, page)
	want(t, "header", e, api.OK)
	foot, e := section.Foot(s, page)
	want(t, "footer", e, api.OK)
	for _, r := range []api.Rect{head, foot} {
		if r.X != got[0].X || r.X+r.W != last.X+last.W || r.H < 0 {
			t.Errorf("%v of page %d of %+v is not over the columns", r, page, s)
		}
	}
	if head.Y != s.Top/2 || head.Y+head.H != got[0].Y {
		t.Errorf("header %v of page %d of %+v is not in the margin above", head, page, s)
	}
	if foot.Y != got[0].Y+got[0].H || foot.H != s.Bottom/2 || foot.Y+foot.H > s.H {
		t.Errorf("footer %v of page %d of %+v is not in the margin below", foot, page, s)
	}
}

// TestModel: P5.1 to P5.4, many sections that look like chance, on all kinds of pages.
func TestModel(t *testing.T) {
	next := chance(5)
	good := 0
	for range 20000 {
		s, page := some(next), []int{next(4200) - 50, next(5), next(3) + 4095}[next(3)]
		compare(t, s, page)
		if may(s) == api.OK {
			good++
		}
	}
	if good < 5000 {
		t.Errorf("only %d sections may be", good)
	}
}

// TestAllSmallSections: P5.1, P5.2 and P5.4, all sections of small numbers, on a turned page and on another one.
func TestAllSmallSections(t *testing.T) {
	for w := 8; w <= 44; w++ {
		for cols := 1; cols <= 4; cols++ {
			for gap := range 4 {
				for inner := range 4 {
					for outer := range 4 {
						s := api.Section{W: w, H: 23, Top: inner, Bottom: outer, Inner: inner, Outer: outer, Cols: cols, Gap: gap, Mirror: 1}
						compare(t, s, 1)
						compare(t, s, 2)
					}
				}
			}
		}
	}
}
