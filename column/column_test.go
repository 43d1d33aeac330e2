package column_test

import (
	"math"
	"slices"
	"sync"
	"testing"

	"quire/api"
	"quire/column"
)

// far is numbers that are out of all bounds.
var far = []int{math.MinInt, math.MinInt + 1, math.MinInt32 - 1, math.MinInt32, -1 << 32, 1 - 1<<32, -1 << 17, -1 << 16, 1 - 1<<16, -4096, -4095, -256, -255, 1 << 16, 1<<16 + 1, 1 << 17, math.MaxInt32, math.MaxInt32 + 1, 1 << 32, 1<<32 + 1, 1<<32 + 4, math.MaxInt - 1, math.MaxInt}

// noLengths is numbers that are no lengths, with those beside the bounds.
var noLengths = slices.Concat(far, []int{-2, -1, 4096, 4097, 8191})

// noFlags is numbers that say neither yes nor no.
var noFlags = slices.Concat(far, []int{-2, -1, 2, 3, 255, 256, 257, 4096})

// noKept is numbers of lines that can't have to stay together.
var noKept = slices.Concat(far, []int{-4, -1, 0, 5, 6, 255, 256, 257, 4096})

// example is the slabs of the chapter's table.
func example() []api.Slab {
	return []api.Slab{{H: 10}, {H: 10, Gap: 5}, {H: 10, Keep: 1}, {H: 20}}
}

// many is so many slabs of this kind.
func many(n int, s api.Slab) []api.Slab { return slices.Repeat([]api.Slab{s}, n) }

// split tells whether of so many lines so many stand there.
func split(t *testing.T, x lines, must int) {
	t.Helper()
	if k, e := column.Split(x.n, x.fit, x.orphan, x.widow, x.whole, x.top); k != must || e != api.OK {
		t.Errorf("%+v: %d, %v, not %d", x, k, e, must)
	}
	askSplit(t, x)
}

// unsplit tells whether lines are not split, but an error is told.
func unsplit(t *testing.T, x lines, must api.Errno) {
	t.Helper()
	for _, x.top = range []bool{false, true} {
		if k, e := column.Split(x.n, x.fit, x.orphan, x.widow, x.whole, x.top); k != 0 || e != must {
			t.Errorf("%+v: %d, %v, not %v", x, k, e, must)
		}
	}
}

// high tells whether slabs are together so high.
func high(t *testing.T, l []api.Slab, from, to, must int) {
	t.Helper()
	if h, e := column.Height(l, from, to); h != must || e != api.OK {
		t.Errorf("height of %d slabs from %d to %d: %d, %v, not %d", len(l), from, to, h, e, must)
	}
}

// noHeight tells whether slabs have no height, but an error is told.
func noHeight(t *testing.T, l []api.Slab, from, to int, must api.Errno) {
	t.Helper()
	if h, e := column.Height(l, from, to); h != 0 || e != must {
		t.Errorf("height of %d slabs from %d to %d: %d, %v, not %v", len(l), from, to, h, e, must)
	}
}

// filled tells whether a column is filled up to there, so high, and whether it had to be.
func filled(t *testing.T, l []api.Slab, from, height, to, high int, forced bool) {
	t.Helper()
	if a, b, c, e := column.Fill(l, from, height); a != to || b != high || c != forced || e != api.OK {
		t.Errorf("%d slabs from %d in %d: %d, %d, %v, %v, not %d, %d, %v", len(l), from, height, a, b, c, e, to, high, forced)
	}
}

// unfilled tells whether a column is not filled, but an error is told.
func unfilled(t *testing.T, l []api.Slab, from, height int, must api.Errno) {
	t.Helper()
	if a, b, c, e := column.Fill(l, from, height); a != 0 || b != 0 || c || e != must {
		t.Errorf("%d slabs from %d in %d: %d, %d, %v, %v, not %v", len(l), from, height, a, b, c, e, must)
	}
}

// columns tells whether columns are filled up to there, and whether one of them had to be.
func columns(t *testing.T, l []api.Slab, height int, forced bool, must ...int) {
	t.Helper()
	if a, b, e := column.Columns(l, height, len(must)); !slices.Equal(a, must) || b != forced || e != api.OK {
		t.Errorf("%d slabs in columns of %d: %v, %v, %v, not %v, %v", len(l), height, a, b, e, must, forced)
	}
}

// noColumns tells whether columns are not filled, but an error is told.
func noColumns(t *testing.T, l []api.Slab, height, cols int, must api.Errno) {
	t.Helper()
	if a, b, e := column.Columns(l, height, cols); len(a) != 0 || b || e != must {
		t.Errorf("%d slabs in %d columns of %d: %v, %v, %v, not %v", len(l), cols, height, a, b, e, must)
	}
}

// refused tells whether all calls refuse these slabs, whatever else they are asked.
func refused(t *testing.T, l []api.Slab, must api.Errno) {
	t.Helper()
	for _, n := range slices.Concat(noLengths, []int{0, 1, len(l) - 1, len(l), len(l) + 1}) {
		noHeight(t, l, 0, n, must)
		noHeight(t, l, n, len(l), must)
		noHeight(t, l, n, n, must)
		unfilled(t, l, 0, n, must)
		unfilled(t, l, n, 100, must)
		unfilled(t, l, n, n, must)
		noColumns(t, l, 100, n, must)
		noColumns(t, l, n, 2, must)
		noColumns(t, l, n, n, must)
	}
}

// TestExamples: the chapter's table, row by row.
func TestExamples(t *testing.T) {
	split(t, lines{5, 5, 2, 2, 0, false}, 5)
	split(t, lines{5, 4, 2, 2, 0, false}, 3)
	split(t, lines{5, 1, 2, 2, 0, false}, 0)
	split(t, lines{5, 1, 2, 2, 0, true}, 1)
	split(t, lines{3, 2, 2, 2, 0, false}, 0)
	split(t, lines{3, 2, 1, 1, 1, false}, 0)
	split(t, lines{3, 0, 1, 1, 0, true}, 1)
	high(t, example(), 0, 3, 35)
	high(t, example(), 1, 3, 20)
	filled(t, example(), 0, 40, 3, 35, false)
	filled(t, example(), 0, 30, 1, 10, false)
	filled(t, example(), 1, 15, 2, 10, true)
	filled(t, example(), 3, 5, 4, 20, true)
	columns(t, example(), 30, false, 1, 3, 4)
	unsplit(t, lines{0, 0, 1, 1, 0, false}, api.ErrRange)
	unfilled(t, example(), 5, 9, api.ErrRange)
	unfilled(t, example(), 0, -1, api.ErrRange)
}

// TestSplitFits: P19.1, fit of 0, below n, n and above n, of one line, of a few and of 4,096.
func TestSplitFits(t *testing.T) {
	for _, n := range []int{1, 2, 3, 9, 100, 4095, 4096} {
		for _, fit := range []int{n, n + 1, n + 4, 2 * n, 4096, 4097, 1 << 16, math.MaxInt32, 1 << 32, math.MaxInt - 1, math.MaxInt} {
			for whole := range 2 {
				split(t, lines{n, fit, 1, 1, whole, false}, n)
				split(t, lines{n, fit, 4, 4, whole, false}, n)
				split(t, lines{n, fit, 4, 4, whole, true}, n)
			}
		}
		split(t, lines{n, 0, 1, 1, 0, false}, 0)
		split(t, lines{n, 0, 4, 4, 0, true}, 1)
		split(t, lines{n, 0, 4, 4, 1, true}, 1)
	}
	split(t, lines{4096, 4095, 1, 1, 0, false}, 4095)
	split(t, lines{4096, 4095, 4, 4, 0, false}, 4092)
	split(t, lines{4096, 4, 4, 4, 0, false}, 4)
	split(t, lines{4096, 3, 4, 4, 0, false}, 0)
	split(t, lines{4096, 3, 4, 4, 0, true}, 3)
	split(t, lines{4096, 1000, 4, 4, 0, false}, 1000)
	split(t, lines{1, 0, 1, 1, 0, false}, 0)
	split(t, lines{1, 0, 1, 1, 0, true}, 1)
	split(t, lines{1, 0, 1, 1, 1, true}, 1)
}

// TestSplitKeeps: P19.1 and P19.4, orphans and widows of 1 to 4, together more than n, just n, fewer than n.
func TestSplitKeeps(t *testing.T) {
	for orphan := 1; orphan <= 4; orphan++ {
		for widow := 1; widow <= 4; widow++ {
			n := orphan + widow
			split(t, lines{n, n - 1, orphan, widow, 0, false}, orphan)
			split(t, lines{n, orphan, orphan, widow, 0, false}, orphan)
			split(t, lines{n, orphan - 1, orphan, widow, 0, false}, 0)
			split(t, lines{n, orphan - 1, orphan, widow, 0, true}, max(orphan-1, 1))
			split(t, lines{n - 1, n - 2, orphan, widow, 0, false}, 0)
			split(t, lines{n - 1, n - 2, orphan, widow, 0, true}, max(n-2, 1))
			split(t, lines{n + 1, n, orphan, widow, 0, false}, orphan+1)
			split(t, lines{n + 1, orphan, orphan, widow, 0, false}, orphan)
			split(t, lines{n + 20, orphan + 7, orphan, widow, 0, true}, orphan+7)
			split(t, lines{n + 20, n + 19, orphan, widow, 0, true}, orphan+20)
		}
	}
	split(t, lines{1, 0, 4, 4, 0, false}, 0)
	split(t, lines{2, 1, 4, 4, 0, false}, 0)
	split(t, lines{2, 1, 4, 4, 0, true}, 1)
	split(t, lines{7, 6, 4, 4, 0, true}, 6)
	split(t, lines{8, 6, 4, 4, 0, true}, 4)
	split(t, lines{6, 4, 1, 4, 0, false}, 2)
	split(t, lines{6, 4, 4, 1, 0, false}, 4)
}

// TestSplitWhole: P19.1 and P19.4, what is not split stands there as a whole, or not, but where it stands alone.
func TestSplitWhole(t *testing.T) {
	for fit := range 9 {
		split(t, lines{9, fit, 1, 1, 1, false}, 0)
		split(t, lines{9, fit, 1, 1, 1, true}, max(fit, 1))
		split(t, lines{9, fit, 1, 1, 0, false}, fit)
		split(t, lines{9, fit, 1, 1, 0, true}, max(fit, 1))
	}
	split(t, lines{9, 9, 1, 1, 1, false}, 9)
	split(t, lines{4096, 4095, 1, 1, 1, false}, 0)
	split(t, lines{4096, 4095, 1, 1, 1, true}, 4095)
	split(t, lines{4096, 4096, 4, 4, 1, false}, 4096)
}

// TestSplitBounds: P19.1 and P11, each argument out of its bounds, and at them.
func TestSplitBounds(t *testing.T) {
	for _, n := range slices.Concat(far, []int{-2, -1, 0, 4097, 4098, 8192, 1 << 20}) {
		unsplit(t, lines{n, 0, 1, 1, 0, false}, api.ErrRange)
		unsplit(t, lines{n, 4096, 4, 4, 1, false}, api.ErrRange)
		unsplit(t, lines{n, math.MaxInt, 4, 4, 1, false}, api.ErrRange)
	}
	for _, fit := range []int{math.MinInt, math.MinInt + 1, math.MinInt32 - 1, math.MinInt32, -1 << 32, 5 - 1<<32, -1 << 16, -4096, -2, -1} {
		unsplit(t, lines{1, fit, 1, 1, 0, false}, api.ErrRange)
		unsplit(t, lines{4096, fit, 4, 4, 1, false}, api.ErrRange)
	}
	for _, keep := range noKept {
		unsplit(t, lines{5, 4, keep, 2, 0, false}, api.ErrArg)
		unsplit(t, lines{5, 4, 2, keep, 0, false}, api.ErrArg)
		unsplit(t, lines{5, 5, keep, 2, 1, false}, api.ErrArg)
		unsplit(t, lines{5, 5, 2, keep, 1, false}, api.ErrArg)
		unsplit(t, lines{4096, math.MaxInt, keep, keep, 0, false}, api.ErrArg)
	}
	for _, whole := range noFlags {
		unsplit(t, lines{5, 4, 2, 2, whole, false}, api.ErrArg)
		unsplit(t, lines{5, 5, 2, 2, whole, false}, api.ErrArg)
		unsplit(t, lines{1, 0, 1, 1, whole, false}, api.ErrArg)
	}
}

// TestSplitOrderOfErrors: P19.1 and rule 1, a number of lines out of its bounds is told ahead of what must stay together.
func TestSplitOrderOfErrors(t *testing.T) {
	for _, n := range []int{math.MinInt, -1, 0, 1, 5, 4096, 4097, math.MaxInt} {
		for _, fit := range []int{math.MinInt, -1, 0, 4, 4097, math.MaxInt} {
			for _, orphan := range []int{math.MinInt, 0, 1, 4, 5, math.MaxInt} {
				for _, widow := range []int{math.MinInt, 0, 1, 4, 5, math.MaxInt} {
					for _, whole := range []int{-1, 0, 1, 2} {
						askSplit(t, lines{n, fit, orphan, widow, whole, false})
						askSplit(t, lines{n, fit, orphan, widow, whole, true})
					}
				}
			}
		}
	}
	unsplit(t, lines{0, 1, 0, 1, 0, false}, api.ErrRange)
	unsplit(t, lines{5, -1, 1, 5, 0, false}, api.ErrRange)
	unsplit(t, lines{5, -1, 1, 1, 2, false}, api.ErrRange)
	unsplit(t, lines{4097, -1, 0, 0, -1, false}, api.ErrRange)
}

// TestHeight: P19.2, of no slabs, of one and of several, whose first one's gap does not count.
func TestHeight(t *testing.T) {
	high(t, nil, 0, 0, 0)
	high(t, []api.Slab{}, 0, 0, 0)
	high(t, []api.Slab{{H: 7, Gap: 5}}, 0, 1, 7)
	high(t, []api.Slab{{H: 0, Gap: 5}}, 0, 1, 0)
	high(t, []api.Slab{{H: 7, Gap: 5, Keep: 1}}, 0, 1, 7)
	l := []api.Slab{{H: 1, Gap: 10}, {H: 2, Gap: 20, Keep: 1}, {H: 0, Gap: 40}, {H: 4, Gap: 80}}
	high(t, l, 0, 1, 1)
	high(t, l, 0, 2, 23)
	high(t, l, 0, 3, 63)
	high(t, l, 0, 4, 147)
	high(t, l, 1, 2, 2)
	high(t, l, 1, 3, 42)
	high(t, l, 1, 4, 126)
	high(t, l, 2, 3, 0)
	high(t, l, 2, 4, 84)
	high(t, l, 3, 4, 4)
	for at := range 5 {
		high(t, l, at, at, 0)
	}
}

// TestHeightBounds: P19.2 and P11, from and to at their bounds, beside them and beyond.
func TestHeightBounds(t *testing.T) {
	for _, l := range [][]api.Slab{nil, example()[:1], example(), many(4096, api.Slab{H: 1})} {
		for _, n := range slices.Concat(noLengths, []int{-1, len(l) + 1, len(l) + 2}) {
			if n < 0 || n > len(l) {
				noHeight(t, l, n, n, api.ErrRange)
				noHeight(t, l, 0, n, api.ErrRange)
				noHeight(t, l, n, len(l), api.ErrRange)
				noHeight(t, l, len(l), n, api.ErrRange)
				noHeight(t, l, n, 0, api.ErrRange)
			}
		}
		high(t, l, 0, 0, 0)
		high(t, l, len(l), len(l), 0)
		if len(l) > 0 {
			noHeight(t, l, 1, 0, api.ErrRange)
			noHeight(t, l, len(l), len(l)-1, api.ErrRange)
			noHeight(t, l, len(l), 0, api.ErrRange)
			noHeight(t, l, len(l)-1, len(l)+1, api.ErrRange)
		}
	}
	noHeight(t, example(), 3, 2, api.ErrRange)
	noHeight(t, example(), -1, -1, api.ErrRange)
	noHeight(t, example(), math.MinInt, math.MaxInt, api.ErrRange)
	noHeight(t, example(), math.MaxInt, math.MinInt, api.ErrRange)
}

// TestMostSlabs: P19.2, P19.3 and P11, 4,096 slabs as high as can be, and 4,097.
func TestMostSlabs(t *testing.T) {
	l := many(4096, api.Slab{H: 4095, Gap: 4095})
	high(t, l, 0, 4096, 4096*8190-4095)
	high(t, l, 1, 4096, 4095*8190-4095)
	high(t, l, 4095, 4096, 4095)
	filled(t, l, 0, 4095, 1, 4095, false)
	filled(t, l, 0, 4094, 1, 4095, true)
	filled(t, l, 4095, 4095, 4096, 4095, false)
	columns(t, l, 4095, false, 1, 2, 3, 4, 5, 6, 7, 8)
	l = many(4096, api.Slab{H: 1})
	filled(t, l, 0, 4095, 4095, 4095, false)
	filled(t, l, 1, 4095, 4096, 4095, false)
	filled(t, l, 0, 0, 1, 1, true)
	columns(t, l, 4095, false, 4095, 4096, 4096)
	columns(t, l, 512, false, 512, 1024, 1536, 2048, 2560, 3072, 3584, 4096)
	l = many(4096, api.Slab{Keep: 1})
	filled(t, l, 0, 0, 4096, 0, false)
	filled(t, l, 4095, 0, 4096, 0, false)
	columns(t, l, 0, false, 4096, 4096)
	for _, n := range []int{4097, 4098, 8192} {
		refused(t, many(n, api.Slab{H: 1}), api.ErrLong)
		refused(t, many(n, api.Slab{H: -1, Keep: 2}), api.ErrLong)
		refused(t, many(n, api.Slab{Keep: 2}), api.ErrLong)
	}
}

// TestSlabs: P19.2, P19.3 and P11, an H, a Gap and a Keep at their bounds, and out of them, in whatever slab, though it is not among those that are told of.
func TestSlabs(t *testing.T) {
	for _, n := range []int{0, 1, 4094, 4095} {
		high(t, []api.Slab{{H: n, Gap: n}, {H: n, Gap: n, Keep: 1}}, 0, 2, 3*n)
		filled(t, []api.Slab{{H: n}}, 0, n, 1, n, false)
		filled(t, []api.Slab{{Gap: n}}, 0, 0, 1, 0, false)
	}
	for _, at := range []int{0, 1, 2, 3} {
		for _, n := range noLengths {
			l := example()
			l[at].H = n
			refused(t, l, api.ErrRange)
			l = example()
			l[at].Gap = n
			refused(t, l, api.ErrRange)
		}
		for _, n := range noFlags {
			l := example()
			l[at].Keep = n
			refused(t, l, api.ErrArg)
		}
	}
	l := many(4096, api.Slab{H: 1})
	l[4095].Keep = 2
	refused(t, l, api.ErrArg)
	l[4095].H = -1
	refused(t, l, api.ErrRange)
}

// TestOrderOfErrors: P19.2, P19.3 and rule 1, slab by slab, and ErrRange ahead of ErrArg in one.
func TestOrderOfErrors(t *testing.T) {
	high, gap, keep := api.Slab{H: 4096}, api.Slab{Gap: -1}, api.Slab{Keep: 2}
	both := api.Slab{H: -1, Gap: 4096, Keep: -1}
	well := api.Slab{H: 3, Gap: 2, Keep: 1}
	refused(t, []api.Slab{keep, high}, api.ErrArg)
	refused(t, []api.Slab{keep, gap}, api.ErrArg)
	refused(t, []api.Slab{keep, both}, api.ErrArg)
	refused(t, []api.Slab{high, keep}, api.ErrRange)
	refused(t, []api.Slab{gap, keep}, api.ErrRange)
	refused(t, []api.Slab{both, keep}, api.ErrRange)
	refused(t, []api.Slab{well, keep, well, high}, api.ErrArg)
	refused(t, []api.Slab{well, gap, well, keep}, api.ErrRange)
	refused(t, []api.Slab{{H: 4096, Keep: 2}}, api.ErrRange)
	refused(t, []api.Slab{{Gap: 4096, Keep: 2}}, api.ErrRange)
	refused(t, []api.Slab{{H: 4095, Gap: 4095, Keep: 2}}, api.ErrArg)
	refused(t, append(many(4095, well), keep), api.ErrArg)
	refused(t, append(many(4094, well), keep, both), api.ErrArg)
	refused(t, append(many(4094, well), both, keep), api.ErrRange)
	refused(t, append(many(4096, well), both, keep), api.ErrLong)
}

// TestFillBounds: P19.2 and P11, from and the height at their bounds, beside them and beyond.
func TestFillBounds(t *testing.T) {
	for _, l := range [][]api.Slab{nil, example()[:1], example(), many(4096, api.Slab{H: 1})} {
		for _, n := range noLengths {
			unfilled(t, l, 0, n, api.ErrRange)
			unfilled(t, l, len(l), n, api.ErrRange)
			if n < 0 || n > len(l) {
				unfilled(t, l, n, 0, api.ErrRange)
				unfilled(t, l, n, 4095, api.ErrRange)
				unfilled(t, l, n, n, api.ErrRange)
			}
		}
		unfilled(t, l, -1, 100, api.ErrRange)
		unfilled(t, l, len(l)+1, 100, api.ErrRange)
	}
	for _, height := range []int{0, 1, 4094, 4095} {
		filled(t, nil, 0, height, 0, 0, false)
		filled(t, []api.Slab{}, 0, height, 0, 0, false)
		filled(t, example(), 4, height, 4, 0, false)
		filled(t, many(4096, api.Slab{H: 1, Keep: 1}), 4096, height, 4096, 0, false)
	}
}

// TestFill: P19.2 and P19.4, columns just as high as slabs are, and beside it.
func TestFill(t *testing.T) {
	l := []api.Slab{{H: 10, Gap: 99}, {H: 20, Gap: 3}, {H: 30, Gap: 4}}
	filled(t, l, 0, 0, 1, 10, true)
	filled(t, l, 0, 9, 1, 10, true)
	filled(t, l, 0, 10, 1, 10, false)
	filled(t, l, 0, 11, 1, 10, false)
	filled(t, l, 0, 32, 1, 10, false)
	filled(t, l, 0, 33, 2, 33, false)
	filled(t, l, 0, 66, 2, 33, false)
	filled(t, l, 0, 67, 3, 67, false)
	filled(t, l, 0, 68, 3, 67, false)
	filled(t, l, 0, 4095, 3, 67, false)
	filled(t, l, 1, 19, 2, 20, true)
	filled(t, l, 1, 20, 2, 20, false)
	filled(t, l, 1, 53, 2, 20, false)
	filled(t, l, 1, 54, 3, 54, false)
	filled(t, l, 2, 29, 3, 30, true)
	filled(t, l, 2, 30, 3, 30, false)
	filled(t, l, 3, 30, 3, 0, false)
}

// TestFillOfNothing: P19.2, slabs that are not high, or of which only gaps are, stand in a column of 0.
func TestFillOfNothing(t *testing.T) {
	filled(t, []api.Slab{{}}, 0, 0, 1, 0, false)
	filled(t, []api.Slab{{}, {}, {}}, 0, 0, 3, 0, false)
	filled(t, []api.Slab{{}, {}, {H: 1}}, 0, 0, 2, 0, false)
	filled(t, []api.Slab{{Gap: 7}, {}, {Gap: 1}}, 0, 0, 2, 0, false)
	filled(t, []api.Slab{{Gap: 7}, {}, {Keep: 1}, {Gap: 1}}, 0, 0, 3, 0, false)
	filled(t, []api.Slab{{}, {Keep: 1}, {Gap: 1, Keep: 1}}, 0, 0, 2, 0, true)
	filled(t, []api.Slab{{H: 5}, {}, {}}, 0, 5, 3, 5, false)
	filled(t, []api.Slab{{H: 5}, {}, {Keep: 1}, {H: 1}}, 0, 5, 3, 5, false)
	filled(t, []api.Slab{{H: 5}, {}, {Keep: 1}, {H: 1, Keep: 1}}, 0, 5, 1, 5, false)
	filled(t, []api.Slab{{H: 6}, {}, {}}, 0, 5, 1, 6, true)
}

// TestFillKeeps: P19.2 and P19.4, slabs that are kept with the ones ahead: the last allowed break lies further ahead, or there is none.
func TestFillKeeps(t *testing.T) {
	l := []api.Slab{{H: 10}, {H: 10, Keep: 1}, {H: 10}, {H: 10, Keep: 1}, {H: 10, Keep: 1}, {H: 10, Keep: 1}}
	filled(t, l, 0, 9, 1, 10, true)
	filled(t, l, 0, 10, 1, 10, true)
	filled(t, l, 0, 19, 1, 10, true)
	filled(t, l, 0, 20, 2, 20, false)
	filled(t, l, 0, 59, 2, 20, false)
	filled(t, l, 0, 60, 6, 60, false)
	filled(t, l, 1, 9, 2, 10, true)
	filled(t, l, 1, 10, 2, 10, false)
	filled(t, l, 1, 49, 2, 10, false)
	filled(t, l, 1, 50, 6, 50, false)
	filled(t, l, 2, 10, 3, 10, true)
	filled(t, l, 2, 29, 4, 20, true)
	filled(t, l, 2, 39, 5, 30, true)
	filled(t, l, 2, 40, 6, 40, false)
	filled(t, l, 3, 29, 5, 20, true)
	filled(t, l, 3, 30, 6, 30, false)
	filled(t, l, 5, 9, 6, 10, true)
	filled(t, l, 5, 10, 6, 10, false)
	all := many(9, api.Slab{H: 10, Gap: 1, Keep: 1})
	filled(t, all, 0, 97, 8, 87, true)
	filled(t, all, 0, 98, 9, 98, false)
	filled(t, all, 0, 21, 2, 21, true)
	filled(t, all, 0, 20, 1, 10, true)
}

// TestFillOfHighSlabs: P19.2, a slab that is higher than the column stands there alone; behind others it waits.
func TestFillOfHighSlabs(t *testing.T) {
	l := []api.Slab{{H: 200}, {H: 10}, {H: 200, Gap: 1}, {H: 0, Keep: 1}, {H: 300}}
	filled(t, l, 0, 100, 1, 200, true)
	filled(t, l, 1, 100, 2, 10, false)
	filled(t, l, 2, 100, 3, 200, true)
	filled(t, l, 3, 100, 4, 0, false)
	filled(t, l, 4, 100, 5, 300, true)
	filled(t, l, 4, 299, 5, 300, true)
	filled(t, l, 4, 300, 5, 300, false)
	columns(t, l, 100, true, 1, 2, 3, 4, 5, 5, 5, 5)
	columns(t, l, 200, true, 1, 2, 4, 5)
	columns(t, l, 200, false, 1, 2, 4)
}

// TestColumns: P19.3, of no slabs, of fewer slabs than columns, of more than all columns hold.
func TestColumns(t *testing.T) {
	for _, height := range []int{0, 1, 4095} {
		for _, l := range [][]api.Slab{nil, {}} {
			columns(t, l, height, false, 0)
			columns(t, l, height, false, 0, 0, 0)
			columns(t, l, height, false, 0, 0, 0, 0, 0, 0, 0, 0)
		}
	}
	l := many(3, api.Slab{H: 10, Gap: 2})
	columns(t, l, 10, false, 1)
	columns(t, l, 10, false, 1, 2)
	columns(t, l, 10, false, 1, 2, 3)
	columns(t, l, 10, false, 1, 2, 3, 3, 3, 3, 3, 3)
	columns(t, l, 22, false, 2, 3, 3)
	columns(t, l, 34, false, 3, 3)
	columns(t, many(100, api.Slab{H: 10, Gap: 2}), 46, false, 4, 8, 12, 16, 20, 24, 28, 32)
	columns(t, many(100, api.Slab{H: 10, Gap: 2}), 45, false, 3)
}

// TestColumnsThatHadToBe: P19.3, where the first one of the columns had to be, one between, the last one, all, none.
func TestColumnsThatHadToBe(t *testing.T) {
	low, tall, kept := api.Slab{H: 5}, api.Slab{H: 9}, api.Slab{H: 5, Keep: 1}
	columns(t, []api.Slab{low, low, low}, 5, false, 1, 2, 3)
	columns(t, []api.Slab{tall, low, low}, 5, true, 1, 2, 3)
	columns(t, []api.Slab{low, tall, low}, 5, true, 1, 2, 3)
	columns(t, []api.Slab{low, low, tall}, 5, true, 1, 2, 3)
	columns(t, []api.Slab{low, low, tall}, 5, false, 1, 2)
	columns(t, []api.Slab{tall, tall, tall}, 5, true, 1, 2, 3)
	columns(t, []api.Slab{tall}, 5, true, 1)
	columns(t, []api.Slab{tall}, 5, true, 1, 1, 1, 1, 1, 1, 1, 1)
	columns(t, []api.Slab{low, kept, low}, 5, true, 1, 2, 3)
	columns(t, []api.Slab{low, kept, low}, 10, false, 2, 3)
	columns(t, []api.Slab{low, low, kept}, 5, true, 1, 2)
	columns(t, []api.Slab{low, low, kept}, 5, false, 1)
	columns(t, []api.Slab{low, low, low, low, low, low, low, tall}, 5, true, 1, 2, 3, 4, 5, 6, 7, 8)
	columns(t, []api.Slab{low, low, low, low, low, low, low, tall}, 5, false, 1, 2, 3, 4, 5, 6, 7)
}

// TestColumnsBounds: P19.3 and P11, cols and the height at their bounds, beside them and beyond.
func TestColumnsBounds(t *testing.T) {
	for _, l := range [][]api.Slab{nil, example(), many(4096, api.Slab{H: 1})} {
		for _, cols := range slices.Concat(far, []int{-8, -2, -1, 0, 9, 10, 16, 255, 256, 257, 264, 4096, 4097}) {
			noColumns(t, l, 0, cols, api.ErrRange)
			noColumns(t, l, 100, cols, api.ErrRange)
			noColumns(t, l, 4095, cols, api.ErrRange)
			noColumns(t, l, -1, cols, api.ErrRange)
		}
		for _, height := range noLengths {
			for _, cols := range []int{-1, 0, 1, 8, 9} {
				noColumns(t, l, height, cols, api.ErrRange)
			}
		}
		for cols := 1; cols <= 8; cols++ {
			askColumns(t, l[:min(len(l), 300)], 0, cols)
			askColumns(t, l[:min(len(l), 300)], 4095, cols)
		}
	}
}

// TestListsStayAsTheyWere: rule 4, slabs that are handed in are not changed; what stands behind and ahead of them in their memory is neither read nor written.
func TestListsStayAsTheyWere(t *testing.T) {
	for _, other := range []api.Slab{{H: -1, Gap: -1, Keep: 2}, {H: 5, Gap: 1, Keep: 1}, {}} {
		all := slices.Concat(many(3, other), example(), many(9, other))
		was := slices.Clone(all)
		l := all[3:7]
		for height := range 70 {
			askAll(t, l, height)
			askAll(t, all[3:3], height)
			column.Columns(l, height, height%10)
			column.Fill(l, height%6, height)
		}
		for from := range 5 {
			for to := range 7 {
				askHeight(t, l, from, to)
			}
		}
		noHeight(t, l, 0, 5, api.ErrRange)
		unfilled(t, l, 5, 100, api.ErrRange)
		filled(t, l, 3, 100, 4, 20, false)
		filled(t, l, 3, 19, 4, 20, true)
		if !slices.Equal(all, was) {
			t.Fatalf("%v have become %v", was, all)
		}
	}
}

// TestListsAreNotLookedAtLater: rule 4, what was answered stays, though the slabs that were handed in are written over.
func TestListsAreNotLookedAtLater(t *testing.T) {
	for cols := 1; cols <= 8; cols++ {
		l := example()
		a, forced, e := column.Columns(l, 15, cols)
		for i := range l {
			l[i] = api.Slab{H: -9, Gap: -9, Keep: -9}
		}
		must, one := columnsOf(example(), 15, cols)
		if !slices.Equal(a, must) || forced != one || e != api.OK {
			t.Error(a, forced, e)
		}
		askColumns(t, example(), 15, cols)
	}
}

// TestAnswersMayBeWrittenOver: rule 4, numbers that are told are new memory, their spare room too.
func TestAnswersMayBeWrittenOver(t *testing.T) {
	l := example()
	for cols := 1; cols <= 8; cols++ {
		for _, height := range []int{0, 15, 30, 4095} {
			a, _, _ := column.Columns(l, height, cols)
			b, _, _ := column.Columns(l, height, cols)
			for i := range a[:cap(a)] {
				a[:cap(a)][i] = -9
			}
			if must, _ := columnsOf(l, height, cols); !slices.Equal(b, must) {
				t.Error("answers share memory", b)
			}
			askColumns(t, l, height, cols)
		}
	}
	if !slices.Equal(l, example()) {
		t.Error(l)
	}
}

// TestNothingIsKept: P1, what a call answers depends on its arguments alone: calls in whatever order answer the same.
func TestNothingIsKept(t *testing.T) {
	roll := chance(5)
	all := [][]api.Slab{nil, example(), many(30, api.Slab{H: 2, Gap: 1}), {{H: -1}}, {{Keep: 2}}, many(4097, api.Slab{}), mixed(roll, 20, 30)}
	for range 2000 {
		l := all[roll(len(all))]
		askFill(t, l, roll(6)-1, roll(50)-1)
		askColumns(t, l, roll(50)-1, roll(10))
		askHeight(t, l, roll(5), roll(5))
		askSplit(t, lines{roll(9), roll(9), roll(6), roll(6), roll(3), roll(2) == 0})
	}
}

// TestSideBySide: P1, calls on one list from several goroutines answer the same.
func TestSideBySide(t *testing.T) {
	l := mixed(chance(6), 30, 20)
	was := slices.Clone(l)
	var all sync.WaitGroup
	for i := range 8 {
		all.Go(func() {
			for n := range 30 {
				height := 8*n + i
				must := fillOf(was, n, height)
				filled(t, l, n, height, must.to, must.high, must.forced)
				told, forced := columnsOf(was, height, i+1)
				columns(t, l, height, forced, told...)
				to := max(i, n)
				high(t, l, i, to, heightOf(was, i, to))
			}
		})
	}
	all.Wait()
	if !slices.Equal(l, was) {
		t.Error(l)
	}
}
