package band_test

import (
	"math"
	"slices"
	"sync"
	"testing"

	"quire/api"
	"quire/band"
)

// far is numbers that are out of all bounds.
var far = []int{math.MinInt, math.MinInt + 1, math.MinInt32 - 1, math.MinInt32, -1 << 16, -4096, -4095, -255, 1 << 16, 1<<16 + 1, math.MaxInt32, math.MaxInt32 + 1, 1 << 32, 1<<32 + 1, 1<<32 + 100, math.MaxInt - 1, math.MaxInt}

// noSides is numbers that are no sides.
var noSides = slices.Concat(far, []int{-2, -1, api.Full, api.Centre, 4, 5, 256, 258})

// noDims is numbers that are no lengths, with those beside the bounds.
var noDims = slices.Concat(far, []int{-2, -1, 4096, 4097, 8190})

// bothSides is where a band may stand.
var bothSides = []int{api.Left, api.Right}

// bands makes bands of their numbers, four by four.
func bands(numbers ...int) []api.Band {
	var out []api.Band
	for x := range slices.Chunk(numbers, 4) {
		out = append(out, api.Band{Side: x[0], Y: x[1], H: x[2], W: x[3]})
	}
	return out
}

// slots makes slots of their numbers, two by two.
func slots(numbers ...int) []api.Slot {
	var out []api.Slot
	for x := range slices.Chunk(numbers, 2) {
		out = append(out, api.Slot{X: x[0], W: x[1]})
	}
	return out
}

// besideOne is the slot of a line of a column of 100, beside something of a width at a side.
func besideOne(side, w int) []api.Slot {
	if side == api.Left {
		return slots(w, 100-w)
	}
	return slots(0, 100-w)
}

// left is the band of the chapter's examples.
func left() []api.Band { return bands(api.Left, 0, 20, 30) }

// row makes so many bands that may be, one below the other, of both sides in turn.
func row(n int) []api.Band {
	out := make([]api.Band, n)
	for i := range out {
		out[i] = api.Band{Side: bothSides[i%2], Y: 10 * i, H: 7, W: 1 + i}
	}
	return out
}

// head is the first of many bands, to be told.
func head(l []api.Band) []api.Band { return l[:min(len(l), 8)] }

// may tells whether bands may be, by all calls.
func may(t *testing.T, l []api.Band) {
	t.Helper()
	if e := band.Check(l); e != api.OK {
		t.Errorf("check of %d bands %v: %v", len(l), head(l), e)
	}
	if s, e := band.Slots(100, l, 0, 12, 2); len(s) != 2 || e != api.OK {
		t.Errorf("slots beside %d bands %v: %v, %v", len(l), head(l), s, e)
	}
	for _, side := range bothSides {
		if b, e := band.Put(100, l, side, 0, 1, 1); b.W != 1 || e != api.OK {
			t.Errorf("put beside %d bands %v: %v, %v", len(l), head(l), b, e)
		}
	}
	if _, e := band.Clear(l, 0); e != api.OK {
		t.Errorf("clear of %d bands %v: %v", len(l), head(l), e)
	}
}

// refused tells whether bands are answered with an error by all calls, and with nothing else, whatever else is handed in.
func refused(t *testing.T, l []api.Band, e api.Errno) {
	t.Helper()
	if got := band.Check(l); got != e {
		t.Errorf("check of %d bands %v: %v, not %v", len(l), head(l), got, e)
	}
	for _, n := range []int{0, 5, -1, 4096, math.MinInt, math.MaxInt} {
		noSlots(t, n, l, n, n, n, e)
		noSlots(t, 100, l, 0, 12, n, e)
		unput(t, n, l, n, n, n, n, e)
		unput(t, 100, l, api.Left, 0, 10, n, e)
		unclear(t, l, n, e)
	}
}

// slotted tells whether lines have these slots.
func slotted(t *testing.T, w int, l []api.Band, y, pitch int, must []api.Slot) {
	t.Helper()
	if s, e := band.Slots(w, l, y, pitch, len(must)); !slices.Equal(s, must) || e != api.OK {
		t.Errorf("slots of %d, %v, %d, %d, %d: %v, %v, not %v", w, head(l), y, pitch, len(must), s, e, must)
	}
}

// noSlots tells whether no slots, but an error is told.
func noSlots(t *testing.T, w int, l []api.Band, y, pitch, n int, must api.Errno) {
	t.Helper()
	if s, e := band.Slots(w, l, y, pitch, n); len(s) != 0 || e != must {
		t.Errorf("slots of %d, %v, %d, %d, %d: %v, %v, not %v", w, head(l), y, pitch, n, s, e, must)
	}
}

// put tells whether an object's band is at y, as wide as said.
func put(t *testing.T, w int, l []api.Band, side, y, h, wide int, at, width int) {
	t.Helper()
	must := api.Band{Side: side, Y: at, H: h, W: width}
	if b, e := band.Put(w, l, side, y, h, wide); b != must || e != api.OK {
		t.Errorf("put of %d, %v, %d, %d, %d, %d: %v, %v, not %v", w, head(l), side, y, h, wide, b, e, must)
	}
}

// unput tells whether no band, but an error is told.
func unput(t *testing.T, w int, l []api.Band, side, y, h, wide int, must api.Errno) {
	t.Helper()
	if b, e := band.Put(w, l, side, y, h, wide); b != (api.Band{}) || e != must {
		t.Errorf("put of %d, %v, %d, %d, %d, %d: %v, %v, not %v", w, head(l), side, y, h, wide, b, e, must)
	}
}

// cleared tells whether from a place on no band is any more.
func cleared(t *testing.T, l []api.Band, y, must int) {
	t.Helper()
	if at, e := band.Clear(l, y); at != must || e != api.OK {
		t.Errorf("clear of %v, %d: %d, %v, not %d", head(l), y, at, e, must)
	}
}

// unclear tells whether no place, but an error is told.
func unclear(t *testing.T, l []api.Band, y int, must api.Errno) {
	t.Helper()
	if at, e := band.Clear(l, y); at != 0 || e != must {
		t.Errorf("clear of %v, %d: %d, %v, not %v", head(l), y, at, e, must)
	}
}

// TestExamples: the chapter's table, row by row.
func TestExamples(t *testing.T) {
	l := left()
	slotted(t, 100, l, 10, 12, slots(30, 70, 0, 100))
	slotted(t, 100, append(left(), bands(api.Right, 5, 10, 20)...), 0, 12, slots(30, 50, 30, 50))
	put(t, 100, l, api.Left, 5, 10, 40, 20, 40)
	put(t, 100, l, api.Right, 5, 10, 90, 5, 45)
	cleared(t, l, 5, 20)
	cleared(t, l, 30, 30)
	noSlots(t, 100, l, 0, 0, 1, api.ErrRange)
	refused(t, bands(api.Centre, 0, 20, 30), api.ErrArg)
	unput(t, 100, l, api.Full, 0, 10, 10, api.ErrArg)
}

// TestHowMany: P15.1 and P11, no bands, one, up to 64, one more and far more.
func TestHowMany(t *testing.T) {
	may(t, nil)
	may(t, []api.Band{})
	for n := 1; n <= 64; n++ {
		may(t, row(n))
		may(t, make([]api.Band, n))
	}
	for _, n := range []int{65, 66, 100, 128, 255, 256, 257, 320, 1 << 16, 1<<16 + 64} {
		refused(t, make([]api.Band, n), api.ErrLong)
		refused(t, row(n), api.ErrLong)
	}
}

// TestSides: P15.1, both sides, what is between and beside them, at each place of lists of several lengths.
func TestSides(t *testing.T) {
	if api.Left != 0 || api.Full != 1 || api.Right != 2 || api.Centre != 3 {
		t.Fatal("other numbers")
	}
	for _, n := range []int{1, 2, 3, 64} {
		for i := range n {
			l := row(n)
			for _, l[i].Side = range bothSides {
				may(t, l)
			}
			for _, l[i].Side = range noSides {
				refused(t, l, api.ErrArg)
			}
		}
	}
}

// TestNumbersOfBands: P15.1 and P11, each number of a band at its least and greatest, and beyond, at each place of lists of several lengths.
func TestNumbersOfBands(t *testing.T) {
	for _, n := range []int{1, 2, 3, 64} {
		for i := range n {
			for field := range 3 {
				l := row(n)
				number := []*int{&l[i].Y, &l[i].H, &l[i].W}[field]
				for _, *number = range []int{0, 1, 4094, 4095} {
					may(t, l)
				}
				for _, *number = range noDims {
					refused(t, l, api.ErrRange)
				}
			}
		}
	}
	may(t, bands(api.Left, 4095, 4095, 4095))
	may(t, bands(api.Right, 4095, 4095, 4095))
	may(t, bands(api.Left, 0, 0, 0, api.Right, 0, 0, 0))
	refused(t, bands(api.Left, 4096, 4096, 4096), api.ErrRange)
	refused(t, bands(api.Left, -1, -1, -1), api.ErrRange)
	// What both together make is not looked at, nor what two bands have in common.
	may(t, bands(api.Left, 4095, 1, 1))
	may(t, bands(api.Left, 0, 20, 30, api.Left, 0, 20, 30, api.Right, 0, 20, 4095))
}

// TestOrderOfErrorsOfBands: P15.1 and rule 1, too many are told ahead of all else, a band's side ahead of its numbers, a band ahead of those behind it.
func TestOrderOfErrorsOfBands(t *testing.T) {
	sideways, outside := api.Band{Side: api.Full}, api.Band{Side: api.Left, H: 4096}
	both := api.Band{Side: api.Centre, Y: -1, H: -1, W: -1}
	for _, l := range [][]api.Band{{sideways}, {both}, {sideways, outside}, {both, outside}, {sideways, both}, {{}, sideways, outside}, {{}, both, {}}} {
		refused(t, l, api.ErrArg)
	}
	for _, l := range [][]api.Band{{outside}, {outside, sideways}, {outside, both}, {{}, outside, sideways}, {outside, {}, both, {}}} {
		refused(t, l, api.ErrRange)
	}
	for _, side := range noSides {
		for _, n := range noDims {
			refused(t, bands(side, n, 0, 0), api.ErrArg)
			refused(t, bands(side, 0, n, 0), api.ErrArg)
			refused(t, bands(side, 0, 0, n), api.ErrArg)
		}
	}
	for _, b := range []api.Band{sideways, outside, both} {
		l := row(65)
		l[0] = b
		refused(t, l, api.ErrLong)
		may(t, l[1:])
		l[0], l[64] = l[1], b
		refused(t, l, api.ErrLong)
		refused(t, slices.Repeat([]api.Band{b}, 65), api.ErrLong)
	}
	for first := range 64 {
		l := row(64)
		l[first] = outside
		for i := first + 1; i < 64; i++ {
			l[i] = both
		}
		refused(t, l, api.ErrRange)
		l[first] = both
		for i := first + 1; i < 64; i++ {
			l[i] = outside
		}
		refused(t, l, api.ErrArg)
	}
}

// TestColumnsAndLines: P15.2 and P11, w, y, pitch and n at their least and greatest, and beyond.
func TestColumnsAndLines(t *testing.T) {
	for _, l := range [][]api.Band{nil, {}, left(), row(64), bands(api.Right, 4095, 4095, 4095)} {
		for _, n := range []int{0, 1, 4094, 4095} {
			for _, pitch := range []int{1, 2, 254, 255} {
				for _, count := range []int{0, 1, 255, 256} {
					for _, of := range [][2]int{{n, 0}, {100, n}, {n, n}} {
						if s, e := band.Slots(of[0], l, of[1], pitch, count); len(s) != count || e != api.OK {
							t.Errorf("slots of %d, %d bands, %d, %d, %d: %d, %v", of[0], len(l), of[1], pitch, count, len(s), e)
						}
					}
				}
			}
		}
		for _, n := range noDims {
			noSlots(t, n, l, 0, 12, 2, api.ErrRange)
			noSlots(t, 100, l, n, 12, 2, api.ErrRange)
			noSlots(t, n, l, n, 12, 0, api.ErrRange)
		}
		for _, pitch := range slices.Concat(far, []int{-2, -1, 0, 256, 257, 511, 4095}) {
			noSlots(t, 100, l, 0, pitch, 2, api.ErrRange)
			noSlots(t, 100, l, 0, pitch, 0, api.ErrRange)
		}
		for _, n := range slices.Concat(far, []int{-2, -1, 257, 258, 512, 4095}) {
			noSlots(t, 100, l, 0, 12, n, api.ErrRange)
			noSlots(t, 100, l, 4095, 255, n, api.ErrRange)
		}
	}
	slotted(t, 0, nil, 0, 1, slots(0, 0))
	slotted(t, 4095, nil, 4095, 255, slots(0, 4095))
	slotted(t, 100, left(), 0, 12, nil)
}

// TestObjects: P15.3 and P11, side, w, y, h and wide at their least and greatest, and beyond.
func TestObjects(t *testing.T) {
	for _, l := range [][]api.Band{nil, {}, left(), row(64)} {
		for _, side := range bothSides {
			for _, n := range []int{0, 1, 4094, 4095} {
				for _, q := range [][4]int{{n, 0, 1, 1}, {100, n, 1, 1}, {100, 0, n, 1}, {100, 0, 1, n}, {n, n, n, n}} {
					if b, e := band.Put(q[0], l, side, q[1], q[2], q[3]); b.Side != side || b.Y < q[1] || b.H != q[2] || b.W > q[3] || e != api.OK {
						t.Errorf("put of %d bands, %d, %v: %v, %v", len(l), side, q, b, e)
					}
				}
			}
			for _, n := range noDims {
				unput(t, n, l, side, 0, 10, 10, api.ErrRange)
				unput(t, 100, l, side, n, 10, 10, api.ErrRange)
				unput(t, 100, l, side, 0, n, 10, api.ErrRange)
				unput(t, 100, l, side, 0, 10, n, api.ErrRange)
				unput(t, n, l, side, n, n, n, api.ErrRange)
			}
		}
		for _, side := range noSides {
			unput(t, 100, l, side, 0, 10, 10, api.ErrArg)
		}
	}
	put(t, 0, nil, api.Left, 0, 0, 0, 0, 0)
	put(t, 4095, nil, api.Right, 4095, 4095, 4095, 4095, 2042)
}

// TestPlacesOfClear: P15.3 and P11, y at its least and greatest, and beyond.
func TestPlacesOfClear(t *testing.T) {
	for _, l := range [][]api.Band{nil, {}, left(), row(64)} {
		for _, n := range noDims {
			unclear(t, l, n, api.ErrRange)
		}
		cleared(t, l, 4094, 4094)
		cleared(t, l, 4095, 4095)
	}
	cleared(t, nil, 0, 0)
	cleared(t, []api.Band{}, 1, 1)
	cleared(t, left(), 0, 20)
}

// TestOrderOfErrors: P15.2, P15.3 and rule 1, bands that may not be are told ahead of all else, a side that is none ahead of numbers.
func TestOrderOfErrors(t *testing.T) {
	many := make([]api.Band, 65)
	for e, l := range map[api.Errno][]api.Band{api.ErrLong: many, api.ErrArg: bands(api.Full, 0, 0, 0), api.ErrRange: bands(api.Left, 0, -1, 0)} {
		for _, n := range noDims {
			noSlots(t, n, l, 0, 12, 2, e)
			noSlots(t, 100, l, n, 12, 2, e)
			noSlots(t, 100, l, 0, n, 2, e)
			noSlots(t, 100, l, 0, 12, n, e)
			unput(t, n, l, api.Left, 0, 10, 10, e)
			unput(t, 100, l, api.Right, n, n, n, e)
			unclear(t, l, n, e)
		}
		for _, side := range noSides {
			unput(t, 100, l, side, 0, 10, 10, e)
			unput(t, -1, l, side, -1, -1, -1, e)
		}
	}
	for _, side := range noSides {
		for _, n := range noDims {
			unput(t, n, nil, side, 0, 10, 10, api.ErrArg)
			unput(t, 100, left(), side, n, 10, 10, api.ErrArg)
			unput(t, 100, left(), side, 0, n, 10, api.ErrArg)
			unput(t, 100, left(), side, 0, 10, n, api.ErrArg)
		}
	}
}

// TestWhereABandBeginsAndEnds: P15.2, a line is beside a band from where that begins to where it ends, and not where both just meet.
func TestWhereABandBeginsAndEnds(t *testing.T) {
	for _, side := range bothSides {
		l := bands(side, 40, 20, 30)
		for _, at := range [][2]int{{29, 12}, {39, 2}, {40, 1}, {40, 20}, {39, 22}, {0, 41}, {0, 255}, {45, 5}, {59, 1}, {59, 255}, {48, 12}, {48, 13}} {
			slotted(t, 100, l, at[0], at[1], besideOne(side, 30))
		}
		for _, at := range [][2]int{{28, 12}, {39, 1}, {0, 40}, {0, 1}, {60, 1}, {60, 255}, {61, 12}, {4095, 255}} {
			slotted(t, 100, l, at[0], at[1], slots(0, 100))
		}
	}
	// Lines of 12 from 4 on: the first three end at 40 at most, and the sixth begins above 60.
	slotted(t, 100, bands(api.Left, 40, 20, 30), 4, 12, slots(0, 100, 0, 100, 0, 100, 30, 70, 30, 70, 0, 100, 0, 100))
	// A band of one row alone.
	slotted(t, 100, bands(api.Right, 12, 1, 30), 0, 12, slots(0, 100, 0, 70, 0, 100))
	slotted(t, 100, bands(api.Right, 11, 1, 30), 0, 12, slots(0, 70, 0, 100, 0, 100))
}

// TestBandsOfNoHeight: P15.2, no line is beside a band of no height, wherever that is.
func TestBandsOfNoHeight(t *testing.T) {
	for _, side := range bothSides {
		for y := range 40 {
			slotted(t, 100, bands(side, y, 0, 30), 0, 12, slots(0, 100, 0, 100, 0, 100))
			slotted(t, 100, bands(side, y, 0, 4095), 5, 1, slots(0, 100, 0, 100, 0, 100))
		}
		slotted(t, 100, bands(side, 6, 0, 50, side, 0, 12, 7), 0, 12, besideOne(side, 7))
	}
}

// TestBandsOfNoWidth: P15.2, a line beside bands of no width has the whole column.
func TestBandsOfNoWidth(t *testing.T) {
	for _, side := range bothSides {
		slotted(t, 100, bands(side, 0, 20, 0), 0, 12, slots(0, 100, 0, 100, 0, 100))
		slotted(t, 100, bands(side, 0, 20, 0, 2-side, 0, 20, 0), 0, 12, slots(0, 100, 0, 100))
		slotted(t, 0, bands(side, 0, 20, 0), 0, 12, slots(0, 0))
	}
	slotted(t, 100, bands(api.Left, 0, 20, 0, api.Right, 0, 20, 10, api.Left, 0, 9, 5), 0, 12, slots(5, 85, 0, 90, 0, 100))
}

// TestTheWidest: P15.2, of several bands of one side the widest counts, be it the first, one in the middle or the last, and of those alone that the line is beside.
func TestTheWidest(t *testing.T) {
	for _, side := range bothSides {
		for _, widths := range [][]int{{9, 9, 9}, {9, 3, 5}, {9, 5, 3}, {3, 9, 5}, {5, 9, 3}, {3, 5, 9}, {5, 3, 9}, {9, 9, 3}, {3, 9, 9}, {9, 0, 0}, {0, 0, 9}} {
			var l []api.Band
			for i, w := range widths {
				l = append(l, api.Band{Side: side, Y: i, H: 12 - i, W: w})
			}
			must := besideOne(side, 9)
			slotted(t, 100, l, 0, 12, must)
			slotted(t, 100, append(l, bands(side, 12, 12, 40, 2-side, 12, 1, 50, side, 3, 0, 60)...), 0, 12, must)
			slotted(t, 100, append(bands(side, 12, 12, 40, 2-side, 12, 1, 50, side, 3, 0, 60), l...), 0, 12, must)
		}
	}
	// Stairs: each line has its own widest band.
	slotted(t, 100, bands(api.Left, 0, 36, 5, api.Left, 0, 24, 10, api.Left, 0, 12, 20), 0, 12, slots(20, 80, 10, 90, 5, 95, 0, 100))
	slotted(t, 100, bands(api.Right, 24, 12, 20, api.Right, 12, 24, 10, api.Right, 0, 36, 5), 0, 12, slots(0, 95, 0, 90, 0, 80, 0, 100))
}

// TestBothSides: P15.2, bands of both sides take their parts of a line, and nothing is left of it, if they take as much or more.
func TestBothSides(t *testing.T) {
	both := func(l, r int) []api.Band { return bands(api.Left, 0, 12, l, api.Right, 0, 12, r) }
	for _, x := range [][4]int{
		{0, 0, 0, 100}, {1, 1, 1, 98}, {30, 20, 30, 50}, {45, 45, 45, 10},
		{60, 39, 60, 1}, {60, 40, 60, 0}, {60, 41, 60, 0}, {0, 99, 0, 1}, {0, 100, 0, 0}, {0, 101, 0, 0}, {99, 0, 99, 1}, {100, 0, 100, 0},
		// The slot begins at the widest's W, though that is above the column's.
		{101, 0, 101, 0}, {4095, 0, 4095, 0}, {4095, 4095, 4095, 0}, {0, 4095, 0, 0},
	} {
		slotted(t, 100, both(x[0], x[1]), 0, 12, slots(x[2], x[3], 0, 100))
	}
	slotted(t, 0, both(0, 0), 0, 12, slots(0, 0))
	slotted(t, 0, both(3, 0), 0, 12, slots(3, 0))
	slotted(t, 4095, both(4095, 0), 0, 12, slots(4095, 0))
	slotted(t, 4095, both(4000, 94), 0, 12, slots(4000, 1))
	slotted(t, 100, bands(api.Left, 0, 12, 70, api.Right, 12, 12, 70), 0, 12, slots(70, 30, 0, 30, 0, 100))
	slotted(t, 100, bands(api.Left, 0, 13, 70, api.Right, 12, 12, 70), 0, 12, slots(70, 30, 70, 0, 0, 100))
}

// TestEachLine: P15.2, from no lines to 256 each has its own slot, a pitch below the one ahead.
func TestEachLine(t *testing.T) {
	// Band i stands beside line 4 i alone.
	stairs := make([]api.Band, 64)
	for i := range stairs {
		stairs[i] = api.Band{Side: bothSides[i%2], Y: 7 + 4*i*3 + 1, H: 1, W: i + 1}
	}
	must := make([]api.Slot, 256)
	for i := range must {
		must[i] = api.Slot{W: 100}
		if i%4 == 0 {
			must[i].W = 99 - i/4
		}
		if i%8 == 0 {
			must[i].X = i/4 + 1
		}
	}
	for n := range 257 {
		slotted(t, 100, stairs, 7, 3, must[:n])
	}
}

// TestFarDown: P15.2, lines go on below 4,095, where bands may reach, too.
func TestFarDown(t *testing.T) {
	l := bands(api.Left, 4095, 4095, 30, api.Right, 4095, 1, 20)
	slotted(t, 100, l, 4095, 255, slices.Concat(slots(30, 50), slices.Repeat(slots(30, 70), 16), slices.Repeat(slots(0, 100), 239)))
	slotted(t, 100, l, 4094, 1, slots(0, 100, 30, 50, 30, 70))
	// The band ends at 8,190: a line that begins there is not beside it, one that begins a row ahead is.
	slotted(t, 100, l, 4095, 91, slices.Concat(slots(30, 50), slices.Repeat(slots(30, 70), 44), slots(0, 100)))
	slotted(t, 100, l, 4094, 241, slices.Concat(slots(30, 50), slices.Repeat(slots(30, 70), 16), slots(0, 100)))
	slotted(t, 100, l, 4094, 255, slices.Concat(slots(30, 50), slices.Repeat(slots(30, 70), 16), slots(0, 100)))
	slotted(t, 100, l, 3855, 255, slices.Concat(slots(30, 50), slices.Repeat(slots(30, 70), 16), slots(0, 100)))
	slotted(t, 100, l, 3840, 255, slices.Concat(slots(0, 100), slots(30, 50), slices.Repeat(slots(30, 70), 16), slots(0, 100)))
}

// TestRoom: P15.3, an object is as wide as it is, but at most half of what the column has above 10, rounded down.
func TestRoom(t *testing.T) {
	rooms := map[int]int{0: 0, 1: 0, 8: 0, 9: 0, 10: 0, 11: 0, 12: 1, 13: 1, 14: 2, 15: 2, 99: 44, 100: 45, 101: 45, 102: 46, 4094: 2042, 4095: 2042}
	for _, l := range [][]api.Band{nil, left(), row(64)} {
		for _, side := range bothSides {
			for w, room := range rooms {
				for _, wide := range []int{0, 1, room - 1, room, room + 1, w, 2 * room, 4095} {
					if wide >= 0 {
						put(t, w, l, side, 4000, 10, wide, 4000, min(wide, room))
					}
				}
			}
		}
	}
}

// TestBelowItsSide: P15.3, an object stands from y on, but below the bands of its side that end below y; those that end at y or above it, and those of the other side, leave it there.
func TestBelowItsSide(t *testing.T) {
	for _, side := range bothSides {
		l := bands(side, 20, 10, 5)
		for _, at := range [][2]int{{0, 30}, {5, 30}, {19, 30}, {20, 30}, {21, 30}, {29, 30}, {30, 30}, {31, 31}, {4095, 4095}} {
			put(t, 100, l, side, at[0], 8, 9, at[1], 9)
			put(t, 100, l, 2-side, at[0], 8, 9, at[0], 9)
		}
		// The one that ends the furthest down counts, be it the first, in the middle or the last.
		for _, ends := range [][]int{{60, 50, 40}, {40, 60, 50}, {40, 50, 60}, {60, 60, 60}, {50, 60, 40}, {40, 60, 4}} {
			var l []api.Band
			for i, end := range ends {
				l = append(l, api.Band{Side: side, Y: end - 2 - i, H: 2 + i, W: 7})
			}
			for _, all := range [][]api.Band{l, append(l, bands(2-side, 0, 90, 3)...), append(bands(2-side, 90, 1, 3), l...)} {
				put(t, 100, all, side, 0, 8, 9, 60, 9)
				put(t, 100, all, side, 59, 8, 9, 60, 9)
				put(t, 100, all, side, 60, 8, 9, 60, 9)
				put(t, 100, all, side, 61, 8, 9, 61, 9)
			}
		}
		// One without height ends where it begins, one without width stands there as any other.
		put(t, 100, bands(side, 20, 0, 5), side, 3, 8, 9, 20, 9)
		put(t, 100, bands(side, 20, 10, 0), side, 3, 8, 9, 30, 9)
		put(t, 100, bands(side, 20, 10, 5), side, 3, 0, 0, 30, 0)
		// Nothing is put between bands, though there were room.
		put(t, 100, bands(side, 0, 10, 5, side, 50, 10, 5), side, 0, 8, 9, 60, 9)
	}
}

// TestAboveTheBound: P15.3, an object may stand above 4,095, where bands end there.
func TestAboveTheBound(t *testing.T) {
	for _, side := range bothSides {
		for _, end := range [][2]int{{4095, 0}, {4095, 1}, {4000, 200}, {1, 4095}, {4095, 4094}, {4095, 4095}} {
			l := bands(side, end[0], end[1], 5)
			put(t, 100, l, side, 0, 10, 20, end[0]+end[1], 20)
			put(t, 100, l, side, 4095, 4095, 20, max(4095, end[0]+end[1]), 20)
			put(t, 100, l, 2-side, 4095, 10, 20, 4095, 20)
			cleared(t, l, 0, end[0]+end[1])
			cleared(t, l, 4095, max(4095, end[0]+end[1]))
		}
		// Such a band is refused when it is handed in.
		b, _ := band.Put(100, bands(side, 4095, 1, 5), side, 0, 10, 20)
		refused(t, []api.Band{b}, api.ErrRange)
	}
}

// TestClear: P15.3, the greatest of y and where bands of either side end, above y, at it, below it.
func TestClear(t *testing.T) {
	for _, side := range bothSides {
		l := bands(side, 20, 10, 5)
		for _, at := range [][2]int{{0, 30}, {19, 30}, {20, 30}, {29, 30}, {30, 30}, {31, 31}, {4095, 4095}} {
			cleared(t, l, at[0], at[1])
			cleared(t, append(l, bands(2-side, 0, 7, 40, side, 3, 4, 0)...), at[0], at[1])
		}
		for _, ends := range [][3]int{{60, 50, 40}, {40, 60, 50}, {40, 50, 60}, {60, 60, 60}} {
			l := bands(side, 0, ends[0], 3, 2-side, 10, ends[1]-10, 3, side, 20, ends[2]-20, 3)
			cleared(t, l, 0, 60)
			cleared(t, l, 59, 60)
			cleared(t, l, 60, 60)
			cleared(t, l, 61, 61)
		}
		cleared(t, bands(side, 20, 0, 5), 3, 20)
		cleared(t, bands(side, 20, 10, 0), 3, 30)
	}
}

// TestClearIsClear: P15.3, from what Clear tells on no line is beside a band, and one row ahead of it one is, but for bands of no height.
func TestClearIsClear(t *testing.T) {
	roll := chance(3)
	for range 2000 {
		var l []api.Band
		for range 1 + roll(6) {
			l = append(l, api.Band{Side: 2 * roll(2), Y: roll(300), H: 1 + roll(60), W: 1 + roll(30)})
		}
		at, _ := band.Clear(l, 0)
		slotted(t, 200, l, at, 255, slots(0, 200, 0, 200))
		if s, e := band.Slots(200, l, at-1, 1, 1); e != api.OK || s[0].W == 200 {
			t.Fatal(l, at, s, e)
		}
	}
}

// apart tells whether two bands have no place in common, in a column of a width.
func apart(w int, a, b api.Band) bool {
	rows := min(a.Y+a.H, b.Y+b.H) - max(a.Y, b.Y)
	wide := min(a.W, b.W)
	if a.Side != b.Side {
		wide = a.W + b.W - w
	}
	return rows <= 0 || wide <= 0
}

// freed tells whether a line's slot has no place in common with bands, is at least 10 wide in a column that is, and as wide as can be: right beside it something is covered, or the column ends.
func freed(w int, l []api.Band, y, pitch int, s api.Slot) bool {
	covered := func(from, to int) bool {
		for x := from; x < to; x++ {
			for row := y; row < y+pitch; row++ {
				if slices.ContainsFunc(l, func(b api.Band) bool { return taken(w, b, x, row) }) {
					return true
				}
			}
		}
		return false
	}
	end := s.X + s.W
	return s.X >= 0 && end <= w && s.W >= min(w, 10) && !covered(s.X, end) &&
		(s.X == 0 || covered(s.X-1, s.X)) && (end == w || covered(end, end+1))
}

// TestWhateverIsPut: P15.4 and P7, objects put one behind the other: no two have a place in common, and no line in its slot has one with any.
func TestWhateverIsPut(t *testing.T) {
	roll := chance(4)
	for range 400 {
		w, y := []int{roll(14), 10 + roll(10), roll(120)}[roll(3)], 0
		var l []api.Band
		for n := roll(9); len(l) < n; y += roll(2) * roll(12) {
			b, e := band.Put(w, l, 2*roll(2), y, roll(2)*roll(30), roll(80))
			if e != api.OK {
				t.Fatal(w, l, y, b, e)
			}
			for _, o := range l {
				if !apart(w, o, b) || o.Side == b.Side && o.Y+o.H > b.Y {
					t.Fatal(w, o, b)
				}
			}
			l = append(l, b)
		}
		y, pitch := roll(30), 1+roll(20)
		told, e := band.Slots(w, l, y, pitch, 12)
		if e != api.OK {
			t.Fatal(w, l, e)
		}
		for i, s := range told {
			if !freed(w, l, y+i*pitch, pitch, s) {
				t.Fatal(w, l, y, pitch, i, s)
			}
		}
	}
}

// TestPutBesideAll: P15.4, what is put beside bands that Put did not make has no place in common with those of its side either.
func TestPutBesideAll(t *testing.T) {
	roll := chance(5)
	for range 3000 {
		l := mixed(roll, roll(65))
		if why(l) != api.OK {
			continue
		}
		w := roll(4096)
		b, e := band.Put(w, l, 2*roll(2), roll(4096), roll(4096), roll(4096))
		if e != api.OK {
			t.Fatal(l, e)
		}
		for _, o := range l {
			if o.Side == b.Side && !apart(w, o, b) {
				t.Fatal(w, o, b)
			}
		}
	}
}

// TestAsManyAsMayBe: P15.4 and P11, objects put until there are 64; one more is refused with all of them.
func TestAsManyAsMayBe(t *testing.T) {
	var l []api.Band
	for i := range 65 {
		b, e := band.Put(100, l, bothSides[i%2], 0, 10, 99)
		if b != (api.Band{Side: bothSides[i%2], Y: i / 2 * 10, H: 10, W: 45}) || e != api.OK {
			t.Fatal(i, b, e)
		}
		l = append(l, b)
	}
	refused(t, l, api.ErrLong)
	slotted(t, 100, l[:64], 0, 10, slices.Concat(slices.Repeat(slots(45, 10), 32), slots(0, 100)))
	cleared(t, l[:64], 0, 320)
}

// TestListsStayAsTheyWere: rule 4, a list that is handed in is not changed, and its spare room neither read nor written, nor what stands ahead of it in its memory.
func TestListsStayAsTheyWere(t *testing.T) {
	all := bands(api.Full, 0, 900, 90, api.Right, 5, 10, 20, api.Left, 0, 20, 30, api.Right, 0, 500, 44, api.Centre, -7, 9, 5)
	kept := slices.Clone(all)
	l := all[1:3]
	for y := range 40 {
		band.Check(l)
		band.Slots(100, l, y, 1+y, y)
		band.Put(100, l, 2*(y%2), y, y, y)
		band.Clear(l, y)
		band.Put(-1, l, y, y, y, y)
		band.Slots(100, all, y, 12, 2)
	}
	may(t, l)
	slotted(t, 100, l, 0, 12, slots(30, 50, 30, 50, 0, 100))
	put(t, 100, l, api.Right, 0, 10, 20, 15, 20)
	cleared(t, l, 0, 20)
	slotted(t, 100, all[1:1], 0, 12, slots(0, 100))
	put(t, 100, all[1:1], api.Right, 0, 10, 20, 0, 20)
	cleared(t, all[1:2], 0, 15)
	slotted(t, 100, all[1:4], 0, 12, slots(30, 26, 30, 26, 0, 56))
	refused(t, all[0:2], api.ErrArg)
	refused(t, all[1:5], api.ErrArg)
	if !slices.Equal(all, kept) {
		t.Errorf("%v have become %v", kept, all)
	}

	many := make([]api.Band, 90)
	many[64].Side = api.Full
	may(t, many[:64])
	refused(t, many[:65], api.ErrLong)
	if !slices.Equal(many[:64], make([]api.Band, 64)) {
		t.Errorf("bands have become %v", many)
	}
}

// TestListsAreNotLookedAtLater: rule 4, a list that is changed between calls is seen as it is; what was answered stays.
func TestListsAreNotLookedAtLater(t *testing.T) {
	l := left()
	s, _ := band.Slots(100, l, 10, 12, 2)
	b, _ := band.Put(100, l, api.Left, 5, 10, 40)
	l[0] = api.Band{Side: api.Right, Y: 12, H: 50, W: 7}
	if !slices.Equal(s, slots(30, 70, 0, 100)) || b != (api.Band{Side: api.Left, Y: 20, H: 10, W: 40}) {
		t.Errorf("the answers have become %v, %v", s, b)
	}
	slotted(t, 100, l, 0, 12, slots(0, 100, 0, 93))
	put(t, 100, l, api.Left, 5, 10, 40, 5, 40)
	cleared(t, l, 0, 62)
	l[0].Side = api.Centre
	refused(t, l, api.ErrArg)
	l[0].Side, l[0].W = api.Left, 9
	slotted(t, 100, l, 12, 12, slots(9, 91))
}

// TestAnswersMayBeWrittenOver: rule 4, slots that were answered are the caller's, their spare room too: no later answer, and no list that was handed in, sees what becomes of them.
func TestAnswersMayBeWrittenOver(t *testing.T) {
	l := left()
	for n := range 257 {
		a, _ := band.Slots(100, l, 10, 12, n)
		b, _ := band.Slots(100, l, 10, 12, n)
		kept := slices.Clone(b)
		over := a[:cap(a)]
		for i := range over {
			over[i] = api.Slot{X: -5, W: -7}
		}
		if !slices.Equal(b, kept) || !slices.Equal(l, left()) {
			t.Fatal(n, b, l)
		}
		slotted(t, 100, l, 10, 12, kept)
	}
	first, _ := band.Put(100, l, api.Left, 5, 10, 40)
	first.Y, first.W = -1, -1
	put(t, 100, l, api.Left, 5, 10, 40, 20, 40)
}

// TestNothingIsKept: P1, what a call answers hangs on its arguments alone, not on the calls ahead of it, refused ones among them.
func TestNothingIsKept(t *testing.T) {
	for range 3 {
		slotted(t, 100, left(), 10, 12, slots(30, 70, 0, 100))
		slotted(t, 100, nil, 10, 12, slots(0, 100, 0, 100))
		refused(t, bands(api.Full, 0, 20, 30), api.ErrArg)
		put(t, 100, nil, api.Left, 5, 10, 40, 5, 40)
		noSlots(t, 100, left(), 0, 256, 1, api.ErrRange)
		put(t, 100, left(), api.Left, 5, 10, 40, 20, 40)
		unput(t, 100, left(), api.Left, 4096, 10, 40, api.ErrRange)
		cleared(t, left(), 5, 20)
		unclear(t, left(), -1, api.ErrRange)
		cleared(t, nil, 5, 5)
	}
}

// TestSideBySide: P1 and rule 8, calls in goroutines of their own do not see one another, with one list for all of them.
func TestSideBySide(t *testing.T) {
	shared := row(64)
	var all sync.WaitGroup
	for seed := range 8 {
		all.Go(func() {
			roll := chance(uint32(seed))
			for range 60 {
				compare(t, mixed(roll, roll(8)), asked(roll))
				compare(t, shared, asked(roll))
			}
		})
	}
	all.Wait()
}
