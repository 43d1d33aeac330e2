package tab_test

import (
	"math"
	"slices"
	"sync"
	"testing"

	"quire/api"
	"quire/tab"
)

// far is numbers that are out of all bounds.
var far = []int{math.MinInt, math.MinInt + 1, math.MinInt32 - 1, math.MinInt32, -1 << 16, -8191, -8190, -4096, -4095, -48, 1 << 16, 1<<16 + 1, math.MaxInt32, math.MaxInt32 + 1, 1 << 32, 1<<32 + 1, 1<<32 + 100, math.MaxInt - 1, math.MaxInt}

// stops makes stops of their numbers, two by two.
func stops(numbers ...int) []api.Stop {
	var out []api.Stop
	for x := range slices.Chunk(numbers, 2) {
		out = append(out, api.Stop{At: x[0], Align: x[1]})
	}
	return out
}

// three are the stops of the chapter's examples.
func three() []api.Stop {
	return stops(30, api.Left, 100, api.Right, 200, api.Centre)
}

// row makes so many stops, from a place on by a step, with the three ways of aligning in turn.
func row(n, from, step int) []api.Stop {
	out := make([]api.Stop, n)
	for i := range out {
		out[i] = api.Stop{At: from + i*step, Align: []int{api.Left, api.Right, api.Centre}[i%3]}
	}
	return out
}

// may tells whether stops may be.
func may(t *testing.T, l []api.Stop) {
	t.Helper()
	if e := tab.Check(l); e != api.OK {
		t.Errorf("check of %v: %v", l, e)
	}
	if s, e := tab.Next(l, 0); s == (api.Stop{}) || e != api.OK {
		t.Errorf("next of %v, 0: %v, %v", l, s, e)
	}
	if _, e := tab.Land(l, 0, 0); e != api.OK {
		t.Errorf("land of %v, 0, 0: %v", l, e)
	}
}

// refused tells whether stops are answered with ErrArg, and nothing else, wherever a tab stands.
func refused(t *testing.T, l []api.Stop) {
	t.Helper()
	if e := tab.Check(l); e != api.ErrArg {
		t.Errorf("check of %d stops %v: %v", len(l), l[:min(len(l), 20)], e)
	}
	for _, x := range []int{math.MinInt, -1, 0, 1, 50, 8190, 8191, math.MaxInt} {
		unfound(t, l, x, api.ErrArg)
	}
}

// next tells whether a stop is the one behind x.
func next(t *testing.T, l []api.Stop, x, at, align int) {
	t.Helper()
	if s, e := tab.Next(l, x); s != (api.Stop{At: at, Align: align}) || e != api.OK {
		t.Errorf("next of %v, %d: %v, %v, not {%d %d}", l, x, s, e, at, align)
	}
}

// unfound tells whether no stop is behind x, and nothing lands there, but an error is told.
func unfound(t *testing.T, l []api.Stop, x int, why api.Errno) {
	t.Helper()
	if s, e := tab.Next(l, x); s != (api.Stop{}) || e != why {
		t.Errorf("next of %d stops %v, %d: %v, %v, not %v", len(l), l[:min(len(l), 20)], x, s, e, why)
	}
	for _, w := range []int{math.MinInt, -1, 0, 7, 8190, 8191, math.MaxInt} {
		unlanded(t, l, x, w, why)
	}
}

// lands tells whether what is w wide begins at a place.
func lands(t *testing.T, l []api.Stop, x, w, must int) {
	t.Helper()
	if n, e := tab.Land(l, x, w); n != must || e != api.OK {
		t.Errorf("land of %v, %d, %d: %d, %v, not %d", l, x, w, n, e, must)
	}
}

// unlanded tells whether nothing lands, but an error is told.
func unlanded(t *testing.T, l []api.Stop, x, w int, why api.Errno) {
	t.Helper()
	if n, e := tab.Land(l, x, w); n != 0 || e != why {
		t.Errorf("land of %d stops %v, %d, %d: %d, %v, not %v", len(l), l[:min(len(l), 20)], x, w, n, e, why)
	}
}

// TestExamples: the chapter's table, row by row.
func TestExamples(t *testing.T) {
	l := three()
	next(t, l, 0, 30, api.Left)
	next(t, l, 30, 100, api.Right)
	next(t, l, 200, 240, api.Left)
	next(t, nil, 47, 48, api.Left)
	next(t, nil, 48, 96, api.Left)

	lands(t, l, 30, 20, 80)
	lands(t, l, 90, 20, 90)
	lands(t, l, 100, 21, 190)
	lands(t, l, 0, 500, 30)

	refused(t, stops(30, api.Left, 30, api.Left))
	refused(t, stops(0, api.Left))
	refused(t, stops(30, api.Full))

	unfound(t, nil, -1, api.ErrRange)
	unlanded(t, nil, 0, 9000, api.ErrRange)
}

// TestHowMany: P8.1 and P11, no stops, up to 16 of them, 17 and far more.
func TestHowMany(t *testing.T) {
	may(t, nil)
	may(t, []api.Stop{})
	for n := 1; n <= 16; n++ {
		may(t, row(n, 1, 1))
		may(t, row(n, 5, 200))
		may(t, row(n, 4096-n, 1))
	}
	for _, n := range []int{17, 18, 32, 255, 4000, 4095} {
		refused(t, row(n, 1, 1))
	}
	for _, n := range []int{1 << 8, 1<<8 + 1, 1 << 16, 1<<16 + 16} {
		refused(t, make([]api.Stop, n))
	}
}

// TestPlacesOfStops: P8.1, each At at its least and greatest, and beyond, as a stop by itself and as the first and the last of many.
func TestPlacesOfStops(t *testing.T) {
	for _, align := range []int{api.Left, api.Right, api.Centre} {
		for _, at := range []int{1, 2, 47, 48, 49, 4094, 4095} {
			may(t, stops(at, align))
			next(t, stops(at, align), 0, at, align)
			next(t, stops(at, align), at-1, at, align)
		}
		for _, at := range slices.Concat(far, []int{-2, -1, 0, 4096, 4097, 8190}) {
			refused(t, stops(at, align))
		}
	}
	for n := 2; n <= 16; n++ {
		first, last := row(n, 100, 10), row(n, 100, 10)
		for _, at := range []int{1, 2, 98, 99} {
			first[0].At = at
			may(t, first)
		}
		for _, at := range []int{4000, 4094, 4095} {
			last[n-1].At = at
			may(t, last)
		}
		for _, at := range slices.Concat(far, []int{-1, 0, 4096, 4097}) {
			first[0].At, last[n-1].At = at, at
			refused(t, first)
			refused(t, last)
		}
	}
}

// TestRising: P8.1, two At that are the same, that rise by one, that fall, at each place of lists of each length.
func TestRising(t *testing.T) {
	may(t, stops(1, api.Left, 2, api.Left))
	may(t, stops(4094, api.Right, 4095, api.Centre))
	may(t, stops(1, api.Centre, 4095, api.Left))
	refused(t, stops(1, api.Left, 1, api.Left))
	refused(t, stops(1, api.Left, 1, api.Right))
	refused(t, stops(2, api.Left, 1, api.Left))
	refused(t, stops(4095, api.Left, 4095, api.Left))
	refused(t, stops(4095, api.Left, 1, api.Left))
	for n := 2; n <= 16; n++ {
		for i := 1; i < n; i++ {
			l := row(n, 100, 10)
			l[i].At = l[i-1].At + 1
			may(t, l)
			l[i].At = l[i-1].At
			refused(t, l)
			l[i].At = l[i-1].At - 1
			refused(t, l)
			l[i].At = 1
			refused(t, l)
		}
		// All of them fall, or are the same.
		l := row(n, 100, 10)
		slices.Reverse(l)
		refused(t, l)
		refused(t, row(n, 100, 0))
	}
	// Not next to each other, but the same or less.
	refused(t, stops(30, api.Left, 50, api.Left, 30, api.Left))
	refused(t, stops(30, api.Left, 50, api.Left, 40, api.Left, 60, api.Left))
}

// TestAligns: P8.1, Left, Right and Centre, Full between them, one below and one above, at each place of lists of each length.
func TestAligns(t *testing.T) {
	if api.Left != 0 || api.Full != 1 || api.Right != 2 || api.Centre != 3 {
		t.Fatal("other numbers")
	}
	for n := 1; n <= 16; n++ {
		for i := range n {
			l := row(n, 7, 9)
			for _, l[i].Align = range []int{0, 2, 3} {
				may(t, l)
				next(t, l, l[i].At-1, l[i].At, l[i].Align)
			}
			for _, l[i].Align = range slices.Concat(far, []int{-2, -1, 1, 4, 5, 256, 258}) {
				refused(t, l)
			}
		}
	}
}

// TestPlacesOfTabs: P8.1, P8.2 and P11, x at its least and greatest, and beyond.
func TestPlacesOfTabs(t *testing.T) {
	for _, l := range [][]api.Stop{nil, {}, three(), stops(4095, api.Right), row(16, 255, 256)} {
		for _, x := range slices.Concat(far, []int{-2, -1, 8191, 8192, 8193}) {
			unfound(t, l, x, api.ErrRange)
		}
		next(t, l, 8190, 8208, api.Left)
		next(t, l, 8189, 8208, api.Left)
		lands(t, l, 8190, 0, 8208)
		lands(t, l, 8190, 8190, 8208)
	}
	next(t, nil, 0, 48, api.Left)
	next(t, nil, 1, 48, api.Left)
	next(t, three(), 0, 30, api.Left)
	next(t, stops(1, api.Centre), 0, 1, api.Centre)
	lands(t, nil, 0, 0, 48)
}

// TestWidths: P8.2 and P11, w at its least and greatest, and beyond.
func TestWidths(t *testing.T) {
	for _, l := range [][]api.Stop{nil, {}, three(), stops(4095, api.Right), row(16, 255, 256)} {
		for _, x := range []int{0, 29, 30, 150, 4095, 8190} {
			for _, w := range slices.Concat(far, []int{-2, -1, 8191, 8192, 8193, 9000}) {
				unlanded(t, l, x, w, api.ErrRange)
			}
		}
	}
	lands(t, nil, 0, 8190, 48)
	for align, must := range map[int][4]int{api.Left: {500, 500, 500, 500}, api.Right: {500, 499, 7, 7}, api.Centre: {500, 500, 7, 7}} {
		for i, w := range []int{0, 1, 8189, 8190} {
			lands(t, stops(500, align), 7, w, must[i])
		}
	}
	lands(t, stops(4095, api.Centre), 0, 8190, 0)
	lands(t, stops(4095, api.Centre), 0, 8189, 1)
	lands(t, stops(4095, api.Centre), 0, 8188, 1)
	lands(t, stops(4095, api.Right), 0, 4095, 0)
	lands(t, stops(4095, api.Right), 0, 4094, 1)
}

// TestAboutStops: P8.1, x right at a stop, one ahead of it and one behind it, of lists of each length, and behind the last one.
func TestAboutStops(t *testing.T) {
	for n := 1; n <= 16; n++ {
		l := row(n, 50, 250)
		next(t, l, 0, l[0].At, l[0].Align)
		for i, s := range l {
			next(t, l, s.At-1, s.At, s.Align)
			if i+1 < n {
				next(t, l, s.At, l[i+1].At, l[i+1].Align)
				next(t, l, s.At+1, l[i+1].At, l[i+1].Align)
			}
		}
	}
	l := row(16, 2001, 1)
	for i, s := range l[1:] {
		next(t, l, 2001+i, s.At, s.Align)
	}
	next(t, l, 2016, 2064, api.Left)
	next(t, three(), 199, 200, api.Centre)
	next(t, three(), 200, 240, api.Left)
	next(t, three(), 201, 240, api.Left)
	next(t, three(), 239, 240, api.Left)
	next(t, three(), 240, 288, api.Left)
	next(t, stops(48, api.Right), 0, 48, api.Right)
	next(t, stops(48, api.Right), 47, 48, api.Right)
	next(t, stops(48, api.Right), 48, 96, api.Left)
	next(t, stops(47, api.Right), 47, 48, api.Left)
	next(t, stops(49, api.Right), 48, 49, api.Right)
	next(t, stops(49, api.Right), 49, 96, api.Left)
	next(t, stops(4095, api.Centre), 4094, 4095, api.Centre)
	next(t, stops(4095, api.Centre), 4095, 4128, api.Left)
	// No multiple of 48 is a stop ahead of the last one.
	next(t, stops(1000, api.Right), 0, 1000, api.Right)
	next(t, stops(1, api.Left, 1000, api.Right), 48, 1000, api.Right)
}

// TestMultiples: P8.1 and P8.3, without stops of one's own, and behind the last one, a tab at each place goes to the least multiple of 48 above it, however wide what stands behind it is.
func TestMultiples(t *testing.T) {
	must := 48
	for x := range 8191 {
		if x == must {
			must += 48
		}
		next(t, nil, x, must, api.Left)
		next(t, []api.Stop{}, x, must, api.Left)
		if x >= 200 {
			next(t, three(), x, must, api.Left)
		}
		for _, w := range []int{0, 1, 47, 48, 49, 8190} {
			lands(t, nil, x, w, must)
		}
	}
	for n := 1; n <= 170; n++ {
		next(t, nil, 48*n-1, 48*n, api.Left)
		next(t, nil, 48*n, 48*n+48, api.Left)
		next(t, nil, 48*n+1, 48*n+48, api.Left)
	}
}

// TestLandLeft: P8.2, at a stop of Left all begins there.
func TestLandLeft(t *testing.T) {
	l := stops(100, api.Left)
	for _, x := range []int{0, 1, 40, 98, 99} {
		way := 100 - x
		for _, w := range []int{0, 1, 2, 20, 21, way - 1, way, way + 1, 2*way - 1, 2 * way, 2*way + 1, 8190} {
			lands(t, l, x, w, 100)
		}
	}
}

// TestLandRight: P8.2, at a stop of Right all ends there, but begins not ahead of x.
func TestLandRight(t *testing.T) {
	l := stops(100, api.Right)
	for _, at := range [][2]int{
		{0, 100}, {1, 99}, {2, 98}, {20, 80}, {21, 79},
		{58, 42}, {59, 41}, {60, 40}, {61, 40}, {62, 40},
		{119, 40}, {120, 40}, {121, 40}, {8190, 40},
	} {
		lands(t, l, 40, at[0], at[1])
	}
	for _, at := range [][2]int{{0, 100}, {99, 1}, {100, 0}, {101, 0}, {200, 0}} {
		lands(t, l, 0, at[0], at[1])
	}
	for _, at := range [][2]int{{0, 100}, {1, 99}, {2, 99}, {3, 99}, {8190, 99}} {
		lands(t, l, 99, at[0], at[1])
	}
}

// TestLandCentre: P8.2, at a stop of Centre half of what lands stands ahead of it, rounded down, but begins not ahead of x.
func TestLandCentre(t *testing.T) {
	l := stops(100, api.Centre)
	for _, at := range [][2]int{
		{0, 100}, {1, 100}, {2, 99}, {3, 99}, {4, 98}, {20, 90}, {21, 90},
		{59, 71}, {60, 70}, {61, 70}, {62, 69},
		{118, 41}, {119, 41}, {120, 40}, {121, 40}, {122, 40}, {123, 40}, {8190, 40},
	} {
		lands(t, l, 40, at[0], at[1])
	}
	for _, at := range [][2]int{{0, 100}, {199, 1}, {200, 0}, {201, 0}, {202, 0}} {
		lands(t, l, 0, at[0], at[1])
	}
	for _, at := range [][2]int{{0, 100}, {1, 100}, {2, 99}, {3, 99}, {4, 99}, {8190, 99}} {
		lands(t, l, 99, at[0], at[1])
	}
}

// TestLandsAtItsOwnStop: P8.2, what lands is aligned as the stop behind x says, not as another one.
func TestLandsAtItsOwnStop(t *testing.T) {
	l := three()
	for _, at := range [][3]int{
		{0, 10, 30}, {29, 10, 30}, {30, 10, 90}, {31, 10, 90}, {89, 10, 90}, {90, 10, 90}, {91, 10, 91}, {99, 10, 99},
		{100, 10, 195}, {101, 10, 195}, {195, 10, 195}, {196, 10, 196}, {199, 10, 199}, {200, 10, 240}, {240, 10, 288},
	} {
		lands(t, l, at[0], at[1], at[2])
	}
	// A wide one comes over stops ahead of its own, which are passed already, not further.
	lands(t, l, 100, 199, 101)
	lands(t, l, 100, 8190, 100)
}

// TestWhatLandsStands: P8.3, at each place: at x or behind it, and at its stop with what Align says, or right at x, where there is no room.
func TestWhatLandsStands(t *testing.T) {
	for _, l := range [][]api.Stop{nil, three(), row(16, 1, 1), row(16, 90, 250), stops(4095, api.Right), stops(4094, api.Right, 4095, api.Centre)} {
		for x := range 4300 {
			s, e := tab.Next(l, x)
			if s.At <= x || e != api.OK {
				t.Fatal(l, x, s, e)
			}
			for _, w := range []int{0, 1, 2, 25, s.At - x - 1, s.At - x, s.At - x + 1, 2 * (s.At - x), 2*(s.At-x) + 2, 4000, 8190} {
				w = min(w, 8190)
				ahead := map[int]int{api.Left: 0, api.Right: w, api.Centre: w / 2}[s.Align]
				n, e := tab.Land(l, x, w)
				if e != api.OK || n < x || n+ahead < s.At || n > x && n+ahead != s.At {
					t.Fatal(l, x, w, s, n, e)
				}
			}
		}
	}
}

// TestTabsGoOn: P8.3, tabs one behind the other, with and without something between them, go on, and never back.
func TestTabsGoOn(t *testing.T) {
	for _, l := range [][]api.Stop{nil, three(), row(16, 1, 1), row(16, 90, 250), row(16, 255, 256), stops(4095, api.Centre)} {
		for _, w := range []int{0, 1, 2, 3, 47, 48, 49, 100, 333, 4000} {
			for x, count := 0, 0; x <= 8190; count++ {
				s, _ := tab.Next(l, x)
				n, e := tab.Land(l, x, w)
				if e != api.OK || n < x || n+w <= x || n+w < s.At || count > 200 {
					t.Fatal(l, x, w, s, n, e, count)
				}
				x = n + w
			}
		}
	}
	// Of tabs with nothing between them each one goes to the next stop.
	x := 0
	for _, must := range []int{30, 100, 200, 240, 288, 336} {
		lands(t, three(), x, 0, must)
		x = must
	}
}

// TestOrderOfErrors: P8.1, P8.2 and rule 1, stops that may not be are told ahead of a place or a width out of its bounds.
func TestOrderOfErrors(t *testing.T) {
	out := slices.Concat(far, []int{-1, 8191})
	for _, l := range [][]api.Stop{stops(0, api.Left), stops(30, api.Full), stops(30, api.Left, 30, api.Left), stops(4096, api.Right), row(17, 1, 1), make([]api.Stop, 17)} {
		for _, n := range out {
			unfound(t, l, n, api.ErrArg)
			unlanded(t, l, 0, n, api.ErrArg)
			unlanded(t, l, n, 0, api.ErrArg)
			unlanded(t, l, n, n, api.ErrArg)
		}
	}
	for _, x := range out {
		for _, w := range out {
			unlanded(t, three(), x, w, api.ErrRange)
			unlanded(t, nil, x, w, api.ErrRange)
		}
	}
}

// TestListsStayAsTheyWere: rule 4, a list that is handed in is not changed, and its spare room neither read nor written, nor what stands ahead of it in its memory.
func TestListsStayAsTheyWere(t *testing.T) {
	all := append(stops(900, api.Full), three()...)
	all = append(all, stops(210, api.Right, -7, 9, 220, api.Left)...)
	kept := slices.Clone(all)
	l := all[1:4]
	for x := range 300 {
		tab.Check(l)
		tab.Next(l, x)
		tab.Land(l, x, x)
	}
	may(t, l)
	next(t, l, 0, 30, api.Left)
	next(t, l, 200, 240, api.Left)
	lands(t, l, 205, 30, 240)
	next(t, all[1:1], 0, 48, api.Left)
	next(t, all[1:2], 30, 48, api.Left)
	next(t, all[1:5], 200, 210, api.Right)
	refused(t, all[1:6])
	refused(t, all[0:2])
	if !slices.Equal(all, kept) {
		t.Errorf("%v have become %v", kept, all)
	}

	many := row(40, 1, 1)
	may(t, many[:16])
	next(t, many[:16], 16, 48, api.Left)
	refused(t, many[:17])
	many[5].At = 3
	before := slices.Clone(many)
	refused(t, many[:16])
	refused(t, many)
	if !slices.Equal(many, before) {
		t.Errorf("stops have become %v", many)
	}
}

// TestListsAreNotLookedAtLater: rule 4, a list that is changed between calls is seen as it is; a stop that was answered stays.
func TestListsAreNotLookedAtLater(t *testing.T) {
	l := three()
	s, e := tab.Next(l, 0)
	l[0] = api.Stop{At: 60, Align: api.Right}
	if s != (api.Stop{At: 30, Align: api.Left}) || e != api.OK {
		t.Errorf("the stop has become %v, %v", s, e)
	}
	next(t, l, 0, 60, api.Right)
	lands(t, l, 0, 20, 40)
	s.At = 1
	next(t, l, 0, 60, api.Right)
	l[0].At = 100
	refused(t, l)
	l[0].At = 99
	next(t, l, 98, 99, api.Right)
}

// TestNothingIsKept: P1, what a call answers hangs on its arguments alone, not on the calls ahead of it, refused ones among them.
func TestNothingIsKept(t *testing.T) {
	for range 3 {
		next(t, three(), 30, 100, api.Right)
		next(t, nil, 30, 48, api.Left)
		refused(t, stops(30, api.Full))
		next(t, nil, 0, 48, api.Left)
		unfound(t, three(), 8191, api.ErrRange)
		lands(t, three(), 100, 21, 190)
		unlanded(t, three(), 100, -1, api.ErrRange)
		lands(t, three(), 100, 21, 190)
		lands(t, three(), 0, 21, 30)
	}
}

// TestSideBySide: P1 and rule 8, calls in goroutines of their own do not see one another, with one list for all of them.
func TestSideBySide(t *testing.T) {
	shared := row(16, 90, 250)
	var all sync.WaitGroup
	for seed := range 8 {
		all.Go(func() {
			roll := chance(uint32(seed))
			for range 300 {
				compare(t, list(roll, roll(18)), roll(8300)-50, roll(8300)-50)
				compare(t, shared, roll(8191), roll(8191))
			}
		})
	}
	all.Wait()
}
