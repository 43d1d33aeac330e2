package band_test

import (
	"slices"
	"testing"

	"quire/api"
	"quire/band"
)

// chance tells numbers that look like chance, the same ones each time.
func chance(seed uint32) func(n int) int {
	return func(n int) int {
		seed = seed*1664525 + 1013904223
		return int(seed>>8) % n
	}
}

// outOf tells whether a number is not between two.
func outOf(n, least, most int) bool { return n < least || n > most }

// why tells why bands may not be, as the model has it.
func why(l []api.Band) api.Errno {
	if len(l) >= 65 {
		return api.ErrLong
	}
	for _, b := range l {
		if b.Side != 0 && b.Side != 2 {
			return api.ErrArg
		}
		for _, n := range []int{b.Y, b.H, b.W} {
			if outOf(n, 0, 4095) {
				return api.ErrRange
			}
		}
	}
	return api.OK
}

// taken tells whether a band covers a place of a column, row by row and, in the row, from the left.
func taken(w int, b api.Band, x, row int) bool {
	if row < b.Y || row >= b.Y+b.H {
		return false
	}
	if b.Side == api.Left {
		return x >= 0 && x < b.W
	}
	return x < w && x >= w-b.W
}

// line tells the slot of a line, as the model has it: its ends are pushed in as long as a band covers the place there in one of the line's rows.
func line(w int, l []api.Band, y, pitch int) api.Slot {
	from, to := 0, w
	for _, b := range l {
		for row := y; row < y+pitch; row++ {
			for b.Side == api.Left && taken(w, b, from, row) {
				from++
			}
			for b.Side == api.Right && taken(w, b, to-1, row) {
				to--
			}
		}
	}
	if to < from {
		to = from
	}
	return api.Slot{X: from, W: to - from}
}

// profile tells the slots of lines, as the model has it.
func profile(w int, l []api.Band, y, pitch, n int) ([]api.Slot, api.Errno) {
	if e := why(l); e != api.OK {
		return nil, e
	}
	if outOf(w, 0, 4095) || outOf(y, 0, 4095) || outOf(pitch, 1, 255) || outOf(n, 0, 256) {
		return nil, api.ErrRange
	}
	var out []api.Slot
	for len(out) < n {
		out = append(out, line(w, l, y, pitch))
		y += pitch
	}
	return out, api.OK
}

// object tells the band of an object, as the model has it: it grows as long as twice its width and 10 keep to the column, and goes down as long as a band of its side ends below it.
func object(w int, l []api.Band, side, y, h, wide int) (api.Band, api.Errno) {
	if e := why(l); e != api.OK {
		return api.Band{}, e
	}
	if side != 0 && side != 2 {
		return api.Band{}, api.ErrArg
	}
	for _, n := range []int{w, y, h, wide} {
		if outOf(n, 0, 4095) {
			return api.Band{}, api.ErrRange
		}
	}
	b := api.Band{Side: side, Y: y, H: h}
	for b.W < wide && 2*(b.W+1)+10 <= w {
		b.W++
	}
	for slices.ContainsFunc(l, func(o api.Band) bool { return o.Side == side && o.Y+o.H > b.Y }) {
		b.Y++
	}
	return b, api.OK
}

// lowest tells where no band is any more, as the model has it.
func lowest(l []api.Band, y int) (int, api.Errno) {
	if e := why(l); e != api.OK {
		return 0, e
	}
	if outOf(y, 0, 4095) {
		return 0, api.ErrRange
	}
	for slices.ContainsFunc(l, func(o api.Band) bool { return o.Y+o.H > y }) {
		y++
	}
	return y, api.OK
}

// question is what is asked of bands.
type question struct {
	w, y, pitch, n, side, h, wide int
}

// compare holds all four calls against the model.
func compare(t *testing.T, l []api.Band, q question) {
	t.Helper()
	if e := band.Check(l); e != why(l) {
		t.Errorf("check of %v: %v, not %v", l, e, why(l))
	}
	must, e := profile(q.w, l, q.y, q.pitch, q.n)
	if got, g := band.Slots(q.w, l, q.y, q.pitch, q.n); !slices.Equal(got, must) || g != e {
		t.Errorf("slots of %d, %v, %d, %d, %d: %v, %v, not %v, %v", q.w, l, q.y, q.pitch, q.n, got, g, must, e)
	}
	one, e := object(q.w, l, q.side, q.y, q.h, q.wide)
	if got, g := band.Put(q.w, l, q.side, q.y, q.h, q.wide); got != one || g != e {
		t.Errorf("put of %d, %v, %d, %d, %d, %d: %v, %v, not %v, %v", q.w, l, q.side, q.y, q.h, q.wide, got, g, one, e)
	}
	at, e := lowest(l, q.y)
	if got, g := band.Clear(l, q.y); got != at || g != e {
		t.Errorf("clear of %v, %d: %d, %v, not %d, %v", l, q.y, got, g, at, e)
	}
}

// TestModelItself: the model does as the chapter's examples say.
func TestModelItself(t *testing.T) {
	l := left()
	if s, _ := profile(100, l, 10, 12, 2); !slices.Equal(s, slots(30, 70, 0, 100)) {
		t.Error(s)
	}
	if s, _ := profile(100, append(l, api.Band{Side: api.Right, Y: 5, H: 10, W: 20}), 0, 12, 2); !slices.Equal(s, slots(30, 50, 30, 50)) {
		t.Error(s)
	}
	if b, _ := object(100, l, api.Left, 5, 10, 40); b != (api.Band{Side: api.Left, Y: 20, H: 10, W: 40}) {
		t.Error(b)
	}
	if b, _ := object(100, l, api.Right, 5, 10, 90); b != (api.Band{Side: api.Right, Y: 5, H: 10, W: 45}) {
		t.Error(b)
	}
	for y, must := range map[int]int{5: 20, 30: 30} {
		if at, _ := lowest(l, y); at != must {
			t.Error(y, at)
		}
	}
}

// short makes all bands of small numbers.
func short() []api.Band {
	var out []api.Band
	for _, side := range []int{api.Left, api.Right} {
		for y := range 4 {
			for h := range 3 {
				for _, w := range []int{0, 1, 3} {
					out = append(out, api.Band{Side: side, Y: y, H: h, W: w})
				}
			}
		}
	}
	return out
}

// TestAllShortLists: P15.1 to P15.3, all lists of up to two bands of small numbers, beside lines of each pitch, of columns that are wide enough and too narrow.
func TestAllShortLists(t *testing.T) {
	lists := [][]api.Band{nil}
	for _, b := range short() {
		lists = append(lists, []api.Band{b})
		for _, o := range short() {
			lists = append(lists, []api.Band{b, o})
		}
	}
	for _, l := range lists {
		for y := range 6 {
			for _, w := range []int{0, 1, 4, 15} {
				compare(t, l, question{w: w, y: y, pitch: 1 + y%3, n: 4, side: 2 * (w % 2), h: y, wide: 3})
			}
		}
	}
}

// TestAllLinesAboutABand: P15.2, a band of each height up to 6, and lines of each pitch and each y about it.
func TestAllLinesAboutABand(t *testing.T) {
	for _, side := range []int{api.Left, api.Right} {
		for h := range 7 {
			l := []api.Band{{Side: side, Y: 8, H: h, W: 5}}
			for y := range 18 {
				for pitch := 1; pitch <= 12; pitch++ {
					compare(t, l, question{w: 40, y: y, pitch: pitch, n: 3, side: side, h: h, wide: 20})
				}
			}
		}
	}
}

// mixed makes so many bands, in no order, most of which may be.
func mixed(roll func(n int) int, n int) []api.Band {
	tall, high, wide := []int{30, 300, 4096}[roll(3)], []int{5, 40, 4096}[roll(3)], []int{5, 60, 4096}[roll(3)]
	out := make([]api.Band, n)
	for i := range out {
		out[i] = api.Band{Side: 2 * roll(2), Y: roll(tall), H: roll(high), W: roll(wide)}
	}
	for n > 0 && roll(6) == 0 {
		spoil(roll, &out[roll(n)])
	}
	return out
}

// spoil makes something of a band so that it may not be, mostly.
func spoil(roll func(n int) int, b *api.Band) {
	edge := []int{-1, 4095, 4096, 5000}[roll(4)]
	switch roll(4) {
	case 0:
		b.Side = roll(6) - 1
	case 1:
		b.Y = edge
	case 2:
		b.H = edge
	case 3:
		b.W = edge
	}
}

// asked makes a question, whose numbers keep their bounds mostly.
func asked(roll func(n int) int) question {
	most := []int{40, 400, 4096}[roll(3)]
	q := question{roll(most), roll(most), 1 + roll(20), roll(20), 2 * roll(2), roll(most), roll(most)}
	switch roll(20) {
	case 0:
		q.w = []int{-1, 4095, 4096}[roll(3)]
	case 1:
		q.y = []int{-1, 4095, 4096}[roll(3)]
	case 2:
		q.pitch = []int{-1, 0, 255, 256}[roll(4)]
	case 3:
		q.n = []int{-1, 256, 257}[roll(3)]
	case 4:
		q.side = roll(6) - 1
	case 5:
		q.h = []int{-1, 4095, 4096}[roll(3)]
	case 6:
		q.wide = []int{-1, 4095, 4096}[roll(3)]
	}
	return q
}

// TestModel: P15.1 to P15.3, many lists of bands with many questions.
func TestModel(t *testing.T) {
	roll := chance(15)
	for range 1500 {
		l := mixed(roll, []int{roll(4), roll(20), 60 + roll(7)}[roll(3)])
		for range 3 {
			compare(t, l, asked(roll))
		}
	}
}
