package column_test

import (
	"slices"
	"testing"

	"quire/api"
	"quire/column"
)

// chance tells numbers that look like chance, the same ones each time.
func chance(seed uint32) func(n int) int {
	return func(n int) int {
		seed = seed*1664525 + 1013904223
		return int(seed>>8) % n
	}
}

// lines is what Split is asked: so many lines, of which so many fit, and what must stay together.
type lines struct {
	n, fit, orphan, widow, whole int
	top                          bool
}

// keeps tells whether so many of the lines may stand there without the others, as the model has it.
func (x lines) keeps(k int) bool {
	return k >= x.orphan && x.n-k >= x.widow && x.whole == 0
}

// splitOf tells how many of the lines stand there, as the model has it: the most of all numbers that the chapter allows.
func splitOf(x lines) int {
	if x.fit >= x.n {
		return x.n
	}
	most := 0
	for k := 1; k <= x.fit; k++ {
		if x.keeps(k) {
			most = k
		}
	}
	if most == 0 && x.top {
		most = x.fit
		if most == 0 {
			most = 1
		}
	}
	return most
}

// refusalOfLines tells why lines can't be split, as the model has it.
func refusalOfLines(x lines) api.Errno {
	if x.n < 1 || x.n > 4096 || x.fit < 0 {
		return 5
	}
	if x.orphan < 1 || x.orphan > 4 || x.widow < 1 || x.widow > 4 || x.whole < 0 || x.whole > 1 {
		return 2
	}
	return 0
}

// heightOf tells how high slabs are together, as the model has it: all heights and all gaps, but the first one's gap.
func heightOf(l []api.Slab, from, to int) int {
	sum := 0
	for i := from; i < to; i++ {
		sum += l[i].H + l[i].Gap
	}
	if from < to {
		sum -= l[from].Gap
	}
	return sum
}

// allowed tells whether a break is allowed ahead of the slab of a number, as the model has it.
func allowed(l []api.Slab, at int) bool {
	if at < len(l) {
		return l[at].Keep != 1
	}
	return true
}

// filling is what Fill tells.
type filling struct {
	to, high int
	forced   bool
}

// fillOf fills a column, as the model has it: of all breaks it takes the last one that is allowed and up to which the slabs are not higher than the column, measured anew for each one.
func fillOf(l []api.Slab, from, height int) filling {
	if from == len(l) {
		return filling{to: from}
	}
	to, most := from, from+1
	for at := from + 1; at <= len(l); at++ {
		if heightOf(l, from, at) > height {
			continue
		}
		most = at
		if allowed(l, at) {
			to = at
		}
	}
	if to > from {
		return filling{to, heightOf(l, from, to), false}
	}
	return filling{most, heightOf(l, from, most), true}
}

// columnsOf fills columns, as the model has it.
func columnsOf(l []api.Slab, height, cols int) (out []int, forced bool) {
	at := 0
	for range cols {
		f := fillOf(l, at, height)
		at = f.to
		out = append(out, at)
		if f.forced {
			forced = true
		}
	}
	return out, forced
}

// refusalOfSlabs tells why slabs from one to another one can't be told of, as the model has it.
func refusalOfSlabs(l []api.Slab, from, to int) api.Errno {
	if len(l) > 4096 {
		return 3
	}
	for _, s := range l {
		switch {
		case s.H < 0, s.H > 4095, s.Gap < 0, s.Gap > 4095:
			return 5
		case s.Keep < 0, s.Keep > 1:
			return 2
		}
	}
	if from < 0 || to < from || to > len(l) {
		return 5
	}
	return 0
}

// refusalOfFilling tells why a column can't be filled, as the model has it.
func refusalOfFilling(l []api.Slab, from, height int) api.Errno {
	e := refusalOfSlabs(l, from, len(l))
	if e == 0 && (height < 0 || height > 4095) {
		e = 5
	}
	return e
}

// askSplit holds what Split tells against the model, and against what follows.
func askSplit(t *testing.T, x lines) {
	t.Helper()
	k, e := column.Split(x.n, x.fit, x.orphan, x.widow, x.whole, x.top)
	if must := refusalOfLines(x); must != api.OK {
		if k != 0 || e != must {
			t.Fatalf("%+v: %d, %v, not %v", x, k, e, must)
		}
		return
	}
	if must := splitOf(x); k != must || e != api.OK {
		t.Fatalf("%+v: %d, %v, not %d", x, k, e, must)
	}
	splitFollows(t, x, k)
}

// splitFollows tells whether a split is as P19.4 says.
func splitFollows(t *testing.T, x lines, k int) {
	t.Helper()
	if k < 0 || k > x.n || k > x.fit && !(x.top && x.fit == 0 && k == 1) {
		t.Fatalf("%+v: %d lines", x, k)
	}
	if k > 0 && k < x.n && !x.keeps(k) && !x.top {
		t.Fatalf("%+v: %d lines are split, though they may not be", x, k)
	}
	if k == 0 && x.top {
		t.Fatalf("%+v: none, with nothing ahead", x)
	}
	for more := k + 1; more <= min(x.fit, x.n); more++ {
		if more == x.n || x.keeps(more) {
			t.Fatalf("%+v: %d, though %d could stand there", x, k, more)
		}
	}
}

// askHeight holds what Height tells against the model.
func askHeight(t *testing.T, l []api.Slab, from, to int) {
	t.Helper()
	must, high := refusalOfSlabs(l, from, to), 0
	if must == api.OK {
		high = heightOf(l, from, to)
	}
	if h, e := column.Height(l, from, to); h != high || e != must {
		t.Fatalf("height of %v from %d to %d: %d, %v, not %d, %v", l, from, to, h, e, high, must)
	}
}

// askFill holds what Fill tells against the model, and against what follows.
func askFill(t *testing.T, l []api.Slab, from, height int) {
	t.Helper()
	to, high, forced, e := column.Fill(l, from, height)
	f := filling{to, high, forced}
	if must := refusalOfFilling(l, from, height); must != api.OK {
		if f != (filling{}) || e != must {
			t.Fatalf("%v from %d in %d: %v, %v, not %v", l, from, height, f, e, must)
		}
		return
	}
	if must := fillOf(l, from, height); f != must || e != api.OK {
		t.Fatalf("%v from %d in %d: %v, %v, not %v", l, from, height, f, e, must)
	}
	fillFollows(t, l, from, height, f)
}

// fillFollows tells whether a column is filled as P19.4 says.
func fillFollows(t *testing.T, l []api.Slab, from, height int, f filling) {
	t.Helper()
	if h, e := column.Height(l, from, f.to); h != f.high || e != api.OK {
		t.Fatalf("%v from %d in %d: %v, but %d high", l, from, height, f, h)
	}
	if from < len(l) && f.to == from {
		t.Fatalf("%v from %d in %d: %v takes none", l, from, height, f)
	}
	if !f.forced && (f.high > height || !allowed(l, f.to)) {
		t.Fatalf("%v from %d in %d: %v may not be", l, from, height, f)
	}
	for at := f.to + 1; at <= len(l) && at < f.to+40; at++ {
		if (f.forced || allowed(l, at)) && heightOf(l, from, at) <= height {
			t.Fatalf("%v from %d in %d: %v, though it could go on to %d", l, from, height, f, at)
		}
	}
}

// askColumns holds what Columns tells against the model, and against Fill.
func askColumns(t *testing.T, l []api.Slab, height, cols int) {
	t.Helper()
	told, forced, e := column.Columns(l, height, cols)
	must := refusalOfFilling(l, 0, height)
	if must == 0 && (cols < 1 || cols > 8) {
		must = 5
	}
	if must != api.OK {
		if len(told) != 0 || forced || e != must {
			t.Fatalf("%v in %d columns of %d: %v, %v, %v, not %v", l, cols, height, told, forced, e, must)
		}
		return
	}
	all, one := columnsOf(l, height, cols)
	if !slices.Equal(told, all) || forced != one || e != api.OK {
		t.Fatalf("%v in %d columns of %d: %v, %v, %v, not %v, %v", l, cols, height, told, forced, e, all, one)
	}
	columnsFollow(t, l, height, told, forced)
}

// columnsFollow tells whether columns are each filled as Fill tells, from where the one ahead ends.
func columnsFollow(t *testing.T, l []api.Slab, height int, told []int, forced bool) {
	t.Helper()
	at, one := 0, false
	for _, to := range told {
		next, _, had, e := column.Fill(l, at, height)
		if next != to || e != api.OK {
			t.Fatalf("%v in columns of %d: %v, but from %d on to %d", l, height, told, at, next)
		}
		at, one = next, one || had
	}
	if one != forced {
		t.Fatalf("%v in columns of %d: %v, had to be: %v, not %v", l, height, told, forced, one)
	}
}

// askAll asks all of slabs in a column of a height.
func askAll(t *testing.T, l []api.Slab, height int) {
	t.Helper()
	for from := range len(l) + 1 {
		askFill(t, l, from, height)
	}
	for _, cols := range []int{1, 2, 3, 8} {
		askColumns(t, l, height, cols)
	}
}

// TestModelItself: the model does as the chapter's words and examples say.
func TestModelItself(t *testing.T) {
	for x, must := range map[lines]int{{5, 5, 2, 2, 0, false}: 5, {5, 4, 2, 2, 0, false}: 3, {5, 1, 2, 2, 0, false}: 0, {5, 1, 2, 2, 0, true}: 1, {3, 2, 1, 1, 1, false}: 0, {3, 0, 1, 1, 0, true}: 1} {
		if k := splitOf(x); k != must {
			t.Error(x, k)
		}
	}
	if h := heightOf(example(), 0, 3); h != 35 {
		t.Error(h)
	}
	if f := fillOf(example(), 1, 15); f != (filling{2, 10, true}) {
		t.Error(f)
	}
	if l, forced := columnsOf(example(), 30, 3); !slices.Equal(l, []int{1, 3, 4}) || forced {
		t.Error(l, forced)
	}
}

// TestAllShortSplits: P19.1 and P19.4, all paragraphs of up to twelve lines, with all that may have to stay together.
func TestAllShortSplits(t *testing.T) {
	for n := -1; n <= 12; n++ {
		for fit := -1; fit <= 14; fit++ {
			for keep := range 6 * 6 * 4 * 2 {
				askSplit(t, lines{n, fit, keep % 6, keep / 6 % 6, keep/36%4 - 1, keep/144 == 1})
			}
		}
	}
}

// TestManySplits: P19.1 and P19.4, paragraphs of many lines.
func TestManySplits(t *testing.T) {
	roll := chance(1)
	for range 4000 {
		n := 1 + roll(4096)
		for _, fit := range []int{roll(n + 1), roll(5000), n - roll(min(n, 9)), roll(9)} {
			askSplit(t, lines{n, fit, 1 + roll(4), 1 + roll(4), roll(8) / 7, roll(2) == 0})
		}
	}
}

// lists makes all lists of up to so many of these slabs.
func lists(kinds []api.Slab, most int) [][]api.Slab {
	out := [][]api.Slab{nil}
	for from := 0; most > 0; most-- {
		to := len(out)
		for _, ahead := range out[from:to] {
			for _, s := range kinds {
				out = append(out, append(slices.Clip(ahead), s))
			}
		}
		from = to
	}
	return out
}

// TestAllShortLists: P19.2, P19.3 and P19.4, all lists of up to four slabs that are 0, 1 or 2 high, with gaps of 0 and 1, in all columns that are as high as all of them, and beside it.
func TestAllShortLists(t *testing.T) {
	var kinds []api.Slab
	for i := range 12 {
		kinds = append(kinds, api.Slab{H: i % 3, Gap: i / 3 % 2, Keep: i / 6})
	}
	for _, l := range lists(kinds, 4) {
		for height := range heightOf(l, 0, len(l)) + 2 {
			askAll(t, l, height)
		}
		for from := -1; from <= len(l)+1; from++ {
			for to := -1; to <= len(l)+1; to++ {
				askHeight(t, l, from, to)
			}
		}
	}
}

// TestAllKeeps: P19.2, P19.3 and P19.4, up to eight slabs of one height, each kept with the one ahead or not.
func TestAllKeeps(t *testing.T) {
	for n := range 9 {
		for keeps := range 1 << n {
			var l []api.Slab
			for i := range n {
				l = append(l, api.Slab{H: 3, Gap: 2, Keep: keeps >> i & 1})
			}
			for height := range 5*n + 2 {
				askAll(t, l, height)
			}
		}
	}
}

// mixed makes so many slabs, up to so high, a part of them kept with the ones ahead.
func mixed(roll func(n int) int, n, high int) []api.Slab {
	kept, gap := 1+roll(6), 1+roll(high/2+1)
	var l []api.Slab
	for range n {
		s := api.Slab{H: roll(high + 1), Gap: roll(gap)}
		if roll(6) < kept-1 {
			s.Keep = 1
		}
		l = append(l, s)
	}
	return l
}

// TestModel: P19.2, P19.3 and P19.4, many lists in many columns.
func TestModel(t *testing.T) {
	roll := chance(2)
	for range 3000 {
		l := mixed(roll, roll(40), 1+roll([]int{4, 40, 4095}[roll(3)]))
		all := heightOf(l, 0, len(l))
		for _, height := range []int{roll(20), roll(100), roll(4096), min(all, 4095), min(all/3, 4095)} {
			askAll(t, l, height)
		}
		from := roll(len(l) + 1)
		askHeight(t, l, from, from+roll(len(l)-from+1))
		to := from + roll(len(l)-from+1)
		askFill(t, l, from, min(heightOf(l, from, to), 4095))
		askFill(t, l, from, min(max(heightOf(l, from, to)-1, 0), 4095))
	}
}

// TestManySlabs: P19.2, P19.3 and P19.4, as many slabs as there may be.
func TestManySlabs(t *testing.T) {
	roll := chance(3)
	for _, high := range []int{1, 2, 30, 600} {
		l := mixed(roll, 4090+roll(7), high)
		for range 3 {
			height := roll(4096)
			askFill(t, l, 4000+roll(90), height)
			askHeight(t, l, roll(2000), 2000+roll(2000))
			f := fillOf(l, 3800, height)
			to, h, forced, e := column.Fill(l, 3800, height)
			if f != (filling{to, h, forced}) || e != api.OK {
				t.Fatal(f, to, h, forced, e)
			}
		}
	}
}

// wrong makes a number of these, or one that may be.
func wrong(roll func(n int) int, most int) int {
	if roll(9) == 0 {
		return noLengths[roll(len(noLengths))]
	}
	return roll(most + 1)
}

// TestWrongOnesModel: P19.1 to P19.3, P11 and rule 1, arguments of which none, one or several are out of their bounds.
func TestWrongOnesModel(t *testing.T) {
	roll := chance(4)
	for range 30000 {
		var l []api.Slab
		for range roll(5) {
			s := api.Slab{H: roll(20), Gap: roll(5), Keep: roll(2)}
			if roll(4) == 0 {
				s = api.Slab{H: wrong(roll, 20), Gap: wrong(roll, 5), Keep: wrong(roll, 1)}
			}
			l = append(l, s)
		}
		from, to := wrong(roll, len(l)), wrong(roll, len(l)+1)
		askHeight(t, l, from, to)
		askFill(t, l, from, wrong(roll, 40))
		askColumns(t, l, wrong(roll, 40), wrong(roll, 9))
		askSplit(t, lines{wrong(roll, 9), min(wrong(roll, 9), 5000), wrong(roll, 5), wrong(roll, 5), wrong(roll, 2), roll(2) == 0})
	}
}
