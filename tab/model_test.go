package tab_test

import (
	"slices"
	"testing"

	"quire/api"
	"quire/tab"
)

// chance tells numbers that look like chance, the same ones each time.
func chance(seed uint32) func(n int) int {
	return func(n int) int {
		seed = seed*1664525 + 1013904223
		return int(seed>>8) % n
	}
}

// list makes so many stops, most of which may be.
func list(roll func(n int) int, n int) []api.Stop {
	most := []int{20, 100, 300, 4095}[roll(4)]
	out := make([]api.Stop, n)
	for i := range out {
		out[i] = api.Stop{At: 1 + roll(most), Align: []int{api.Left, api.Right, api.Centre}[roll(3)]}
	}
	slices.SortFunc(out, func(a, b api.Stop) int { return a.At - b.At })
	if roll(8) > 0 {
		out = slices.CompactFunc(out, func(a, b api.Stop) bool { return a.At == b.At })
	}
	if len(out) > 0 && roll(8) == 0 {
		spoil(roll, out)
	}
	return out
}

// spoil makes something of stops so that they may not be, mostly.
func spoil(roll func(n int) int, l []api.Stop) {
	i := roll(len(l))
	switch roll(4) {
	case 0:
		l[i].Align = roll(6) - 1
	case 1:
		l[i].At = roll(4) + 4093
	case 2:
		l[i].At = roll(4) - 1
	case 3:
		slices.Reverse(l)
	}
}

// mayBe tells whether stops may be, as the model has it.
func mayBe(l []api.Stop) bool {
	for i, s := range l {
		if i == 16 || s.At < 1 || s.At > 4095 || s.Align < 0 || s.Align == 1 || s.Align > 3 {
			return false
		}
		for _, ahead := range l[:i] {
			if ahead.At >= s.At {
				return false
			}
		}
	}
	return true
}

// stop tells the stop behind a place, as the model has it: the least one of all above it.
func stop(l []api.Stop, x int) api.Stop {
	var best api.Stop
	for _, s := range l {
		if s.At > x && (best.At == 0 || s.At < best.At) {
			best = s
		}
	}
	if best.At == 0 {
		for best.At <= x {
			best.At += 48
		}
	}
	return best
}

// landing tells where what is w wide begins, as the model has it: it is pushed back from its stop, step by step.
func landing(l []api.Stop, x, w int) int {
	s := stop(l, x)
	at := s.At
	for at > x && (s.Align == 2 && s.At-at < w || s.Align == 3 && 2*(s.At-at)+1 < w) {
		at--
	}
	return at
}

// compare holds all three calls against the model.
func compare(t *testing.T, l []api.Stop, x, w int) {
	t.Helper()
	var why, atStop, atLanding api.Errno
	var s api.Stop
	n := 0
	switch {
	case !mayBe(l):
		why, atStop, atLanding = api.ErrArg, api.ErrArg, api.ErrArg
	case x < 0 || x > 8190:
		atStop, atLanding = api.ErrRange, api.ErrRange
	case w < 0 || w > 8190:
		s, atLanding = stop(l, x), api.ErrRange
	default:
		s, n = stop(l, x), landing(l, x, w)
	}
	if e := tab.Check(l); e != why {
		t.Errorf("check of %v: %v, not %v", l, e, why)
	}
	if got, e := tab.Next(l, x); got != s || e != atStop {
		t.Errorf("next of %v, %d: %v, %v, not %v, %v", l, x, got, e, s, atStop)
	}
	if got, e := tab.Land(l, x, w); got != n || e != atLanding {
		t.Errorf("land of %v, %d, %d: %d, %v, not %d, %v", l, x, w, got, e, n, atLanding)
	}
}

// TestModelItself: the model does as the chapter's examples say.
func TestModelItself(t *testing.T) {
	l := three()
	for x, must := range map[int]api.Stop{0: l[0], 30: l[1], 200: {At: 240}} {
		if s := stop(l, x); s != must {
			t.Errorf("%d: %v, not %v", x, s, must)
		}
	}
	for _, x := range [][3]int{{30, 20, 80}, {90, 20, 90}, {100, 21, 190}, {0, 500, 30}} {
		if n := landing(l, x[0], x[1]); n != x[2] {
			t.Errorf("%v: %d", x, n)
		}
	}
}

// TestAllShortLists: P8.1 to P8.3, all lists of up to three stops at 0 to 4 of each Align, some of which may not be, with tabs about them.
func TestAllShortLists(t *testing.T) {
	var single []api.Stop
	for at := range 5 {
		for align := range 4 {
			single = append(single, api.Stop{At: at, Align: align})
		}
	}
	lists := [][]api.Stop{nil}
	for from, n := 0, 0; n < 3; n++ {
		to := len(lists)
		for _, l := range lists[from:to] {
			for _, s := range single {
				lists = append(lists, append(slices.Clip(slices.Clone(l)), s))
			}
		}
		from = to
	}
	for _, l := range lists {
		for x := -1; x <= 5; x++ {
			for w := -1; w <= 9; w++ {
				compare(t, l, x, w)
			}
		}
	}
}

// TestAllWaysToAStop: P8.2 and P8.3, a stop of each Align, with all ways to it and all widths about them.
func TestAllWaysToAStop(t *testing.T) {
	for _, align := range []int{api.Left, api.Right, api.Centre} {
		l := stops(3, api.Left, 60, align, 70, api.Right)
		for x := range 72 {
			for w := range 130 {
				compare(t, l, x, w)
			}
		}
	}
}

// TestModel: P8.1 to P8.3, many lists of stops with tabs at many places.
func TestModel(t *testing.T) {
	roll := chance(8)
	for range 6000 {
		l := list(roll, roll(19))
		for range 4 {
			compare(t, l, roll(500), roll(500))
			compare(t, l, roll(8400)-100, roll(8400)-100)
		}
		for _, s := range l {
			x := s.At - 2 + roll(4)
			compare(t, l, x, roll(50))
			compare(t, l, max(x-20, 0), 18+roll(50))
		}
	}
}
