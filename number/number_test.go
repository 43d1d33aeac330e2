package number_test

import (
	"math"
	"slices"
	"strconv"
	"strings"
	"sync"
	"testing"

	"quire/api"
	"quire/number"
)

// below is numbers below 0, which are no level, no list and no number of a label.
var below = []int{math.MinInt, math.MinInt + 1, math.MinInt32, -1 << 16, -256, -9, -8, -4, -3, -2, -1}

// above is numbers above all levels, lists and numbers of labels.
var above = []int{4000, 4001, 1 << 16, 1<<16 + 1, math.MaxInt32, 1 << 32, 1<<32 + 1, math.MaxInt - 1, math.MaxInt}

func want(t *testing.T, what string, got, want any) {
	t.Helper()
	if got != want {
		t.Errorf("%s: %v, not %v", what, got, want)
	}
}

// is tells whether a label is what it must be.
func is(t *testing.T, level, n int, label string) {
	t.Helper()
	if s, e := number.Label(level, n); s != label || e != api.OK {
		t.Errorf("label %d, %d: %q, %v, not %q", level, n, s, e, label)
	}
}

// refused tells whether Label answers an error, and no label.
func refused(t *testing.T, level, n int, why api.Errno) {
	t.Helper()
	if s, e := number.Label(level, n); s != "" || e != why {
		t.Errorf("label %d, %d: %q, %v, not %v", level, n, s, e, why)
	}
}

// row makes paragraphs of words such as 1/0: list and level.
func row(text string) []api.Entry {
	var l []api.Entry
	for w := range strings.FieldsSeq(text) {
		list, level, _ := strings.Cut(w, "/")
		a, _ := strconv.Atoi(list)
		b, _ := strconv.Atoi(level)
		l = append(l, api.Entry{List: a, Level: b})
	}
	return l
}

// labelled tells whether paragraphs have these labels (none written as 0).
func labelled(t *testing.T, text, labels string) {
	t.Helper()
	got, e := number.Labels(row(text))
	must := strings.Fields(labels)
	for i, s := range must {
		if s == "0" {
			must[i] = ""
		}
	}
	if e != api.OK || !slices.Equal(got, must) {
		t.Errorf("labels of %s: %q, %v, not %q", text, got, e, must)
	}
}

// counted tells whether a list's counts behind paragraphs are these.
func counted(t *testing.T, text string, list int, must ...int) {
	t.Helper()
	if got, e := number.Counts(row(text), list); e != api.OK || !slices.Equal(got, must) {
		t.Errorf("counts of %s, %d: %v, %v, not %v", text, list, got, e, must)
	}
}

// unlabelled tells whether Labels answers an error, and Counts of each list in the same way.
func unlabelled(t *testing.T, what string, l []api.Entry, why api.Errno) {
	t.Helper()
	if s, e := number.Labels(l); len(s) != 0 || e != why {
		t.Errorf("labels of %s: %q, %v, not %v", what, s, e, why)
	}
	for list := 1; list <= 8; list++ {
		uncounted(t, what, l, list, why)
	}
}

// uncounted tells whether Counts answers an error, and no counts.
func uncounted(t *testing.T, what string, l []api.Entry, list int, why api.Errno) {
	t.Helper()
	if n, e := number.Counts(l, list); len(n) != 0 || e != why {
		t.Errorf("counts of %s, %d: %v, %v, not %v", what, list, n, e, why)
	}
}

// TestExamples: the chapter's table, row by row.
func TestExamples(t *testing.T) {
	is(t, 0, 12, "12.")
	is(t, 1, 1, "a)")
	is(t, 1, 27, "aa)")
	is(t, 1, 702, "zz)")
	is(t, 2, 14, "xiv.")
	is(t, 3, 9, "-")

	first := "1/0 1/1 1/1 0/0 1/0 1/1"
	labelled(t, first, "1. a) b) 0 2. a)")

	labelled(t, "1/1 2/0 1/0", "a) 1. 1.")

	counted(t, first, 1, 2, 1, 0, 0)

	refused(t, 4, 1, api.ErrArg)
	refused(t, 0, 0, api.ErrRange)
	refused(t, 2, 4000, api.ErrRange)
	unlabelled(t, "9/0", row("9/0"), api.ErrArg)
}

// TestExampleOfTheWhole: the fourth of the document's ten examples.
func TestExampleOfTheWhole(t *testing.T) {
	labelled(t, "1/0 1/1 1/1 1/0", "1. a) b) 2.")
}

// TestLevels: P4.1, which levels there are.
func TestLevels(t *testing.T) {
	for level, label := range []string{"1.", "a)", "i.", "-"} {
		is(t, level, 1, label)
	}
	for _, level := range slices.Concat(below, []int{4, 5, 7, 8, 9, 255, 256, 257}, above) {
		for _, n := range []int{1, 2, 3998, 3999} {
			refused(t, level, n, api.ErrArg)
		}
	}
}

// TestNumbers: P4.1, which numbers have labels.
func TestNumbers(t *testing.T) {
	for level, labels := range [][2]string{{"1.", "3999."}, {"a)", "ewu)"}, {"i.", "mmmcmxcix."}, {"-", "-"}} {
		is(t, level, 1, labels[0])
		is(t, level, 3999, labels[1])
		for _, n := range slices.Concat(below, []int{0}, above) {
			refused(t, level, n, api.ErrRange)
		}
	}
}

// TestFirstErrorOfLabel: P4.1, a level and a number that are both wrong.
func TestFirstErrorOfLabel(t *testing.T) {
	for _, level := range slices.Concat(below, []int{4, 5}, above) {
		for _, n := range slices.Concat(below, []int{0}, above) {
			refused(t, level, n, api.ErrArg)
		}
	}
}

// TestDigits: a label of level 0.
func TestDigits(t *testing.T) {
	for n, label := range map[int]string{1: "1.", 9: "9.", 10: "10.", 11: "11.", 99: "99.", 100: "100.", 999: "999.", 1000: "1000.", 3000: "3000.", 3998: "3998.", 3999: "3999."} {
		is(t, 0, n, label)
	}
}

// TestLetters: a label of level 1, about each number at which words grow or a letter turns over.
func TestLetters(t *testing.T) {
	for n, label := range map[int]string{
		1: "a)", 2: "b)", 25: "y)", 26: "z)", 27: "aa)", 28: "ab)", 51: "ay)", 52: "az)", 53: "ba)", 54: "bb)",
		78: "bz)", 79: "ca)", 676: "yz)", 677: "za)", 701: "zy)", 702: "zz)", 703: "aaa)", 704: "aab)", 728: "aaz)", 729: "aba)",
		1378: "azz)", 1379: "baa)", 2054: "bzz)", 2055: "caa)", 2730: "czz)", 2731: "daa)", 3998: "ewt)", 3999: "ewu)",
	} {
		is(t, 1, n, label)
	}
}

// TestRoman: a label of level 2, each value of the table, one below and one above it.
func TestRoman(t *testing.T) {
	for n, label := range map[int]string{
		1: "i.", 2: "ii.", 3: "iii.", 4: "iv.", 5: "v.", 6: "vi.", 8: "viii.", 9: "ix.", 10: "x.", 11: "xi.",
		39: "xxxix.", 40: "xl.", 41: "xli.", 49: "xlix.", 50: "l.", 51: "li.", 89: "lxxxix.", 90: "xc.", 91: "xci.",
		99: "xcix.", 100: "c.", 101: "ci.", 399: "cccxcix.", 400: "cd.", 401: "cdi.", 499: "cdxcix.", 500: "d.", 501: "di.",
		899: "dcccxcix.", 900: "cm.", 901: "cmi.", 999: "cmxcix.", 1000: "m.", 1001: "mi.",
		444: "cdxliv.", 1984: "mcmlxxxiv.", 3888: "mmmdccclxxxviii.", 3998: "mmmcmxcviii.", 3999: "mmmcmxcix.",
	} {
		is(t, 2, n, label)
	}
}

// TestDash: a label of level 3 is the same at each number.
func TestDash(t *testing.T) {
	for n := 1; n <= 3999; n++ {
		is(t, 3, n, "-")
	}
}

// TestUnlikeNumbers: P4.3, unlike numbers have unlike labels on the levels 0 to 2, through all that may be.
func TestUnlikeNumbers(t *testing.T) {
	for level := range 3 {
		seen := map[string]int{}
		for n := 1; n <= 3999; n++ {
			s, e := number.Label(level, n)
			want(t, "error", e, api.OK)
			if was, there := seen[s]; there {
				t.Fatalf("level %d: %d and %d both have %q", level, was, n, s)
			}
			seen[s] = n
		}
		want(t, "labels", len(seen), 3999)
	}
}

// TestLettersRise: words in letters come by their length, and then by the alphabet.
func TestLettersRise(t *testing.T) {
	last := ""
	for n := 1; n <= 3999; n++ {
		s, _ := number.Label(1, n)
		if len(s) < len(last) || len(s) == len(last) && s <= last {
			t.Fatalf("%q behind %q", s, last)
		}
		if strings.Trim(s[:len(s)-1], "abcdefghijklmnopqrstuvwxyz") != "" {
			t.Fatalf("%q has more than letters", s)
		}
		last = s
	}
}

// TestNoParagraphs: nothing to label.
func TestNoParagraphs(t *testing.T) {
	for _, l := range [][]api.Entry{nil, {}, make([]api.Entry, 0, 9)} {
		s, e := number.Labels(l)
		want(t, "labels", len(s), 0)
		want(t, "error", e, api.OK)
		for list := 1; list <= 8; list++ {
			n, e := number.Counts(l, list)
			if e != api.OK || !slices.Equal(n, []int{0, 0, 0, 0}) {
				t.Errorf("counts of nothing: %v, %v", n, e)
			}
		}
	}
}

// TestCounting: a paragraph adds 1 to its level's count, and sets those of the higher levels to 0, not those of the lesser.
func TestCounting(t *testing.T) {
	labelled(t, "1/0 1/0 1/0", "1. 2. 3.")
	labelled(t, "1/1 1/1 1/1", "a) b) c)")
	labelled(t, "1/2 1/2 1/2", "i. ii. iii.")
	labelled(t, "1/3 1/3 1/3", "- - -")
	labelled(t, "1/0 1/1 1/2 1/3 1/2 1/1 1/0", "1. a) i. - ii. b) 2.")
	labelled(t, "1/2 1/1 1/2 1/0 1/2 1/1", "i. a) i. 1. i. a)")
	labelled(t, "1/2 1/3 1/2 1/3 1/0 1/3 1/2", "i. - ii. - 1. - i.")
	labelled(t, "1/1 1/3 1/1 1/2 1/1", "a) - b) i. c)")

	deep := "1/0 1/0 1/1 1/1 1/1 1/2 1/3 1/3"
	counted(t, deep, 1, 2, 3, 1, 2)
	counted(t, deep+" 1/3", 1, 2, 3, 1, 3)
	counted(t, deep+" 1/2", 1, 2, 3, 2, 0)
	counted(t, deep+" 1/1", 1, 2, 4, 0, 0)
	counted(t, deep+" 1/0", 1, 3, 0, 0, 0)
	counted(t, "1/3", 1, 0, 0, 0, 1)
	counted(t, "1/2", 1, 0, 0, 1, 0)
	counted(t, "1/1", 1, 0, 1, 0, 0)
	counted(t, "1/0", 1, 1, 0, 0, 0)
}

// TestCountsBetweenLesserLevels: P4.3, from one paragraph of a lesser level to the next the counts of a level are 1, 2, 3, ..
func TestCountsBetweenLesserLevels(t *testing.T) {
	for level := 1; level < 4; level++ {
		for lesser := range level {
			var l []api.Entry
			for range 3 {
				l = append(l, api.Entry{List: 5, Level: lesser})
				for n := 1; n <= 30; n++ {
					l = append(l, api.Entry{List: 5, Level: level})
					got, e := number.Counts(l, 5)
					want(t, "error", e, api.OK)
					want(t, "count", got[level], n)
					label, _ := number.Label(level, n)
					labels, _ := number.Labels(l)
					want(t, "label", labels[len(labels)-1], label)
				}
			}
		}
	}
}

// TestNoList: paragraphs of no list have no label, and change nothing, whatever their level.
func TestNoList(t *testing.T) {
	labelled(t, "0/0 0/1 0/2 0/3", "0 0 0 0")
	labelled(t, "1/0 0/0 1/0 0/3 1/1 0/0 1/1 0/2 1/2 0/1 1/2", "1. 0 2. 0 a) 0 b) 0 i. 0 ii.")
	for level := range 4 {
		none := " 0/" + strconv.Itoa(level)
		counted(t, "1/0 1/1 1/1 1/2 1/3"+none+none, 1, 1, 2, 1, 1)
		for list := 1; list <= 8; list++ {
			counted(t, none+none, list, 0, 0, 0, 0)
		}
	}
}

// TestListsApart: lists do not see one another.
func TestListsApart(t *testing.T) {
	labelled(t, "1/0 2/0 1/1 2/1 3/0 1/1 2/0 1/0 2/1", "1. 1. a) a) 1. b) 2. 2. a)")
	mixed := "1/0 8/0 8/0 1/1 7/1 2/0 8/3 1/2 2/1 7/2 7/2 2/0"
	counted(t, mixed, 1, 1, 1, 1, 0)
	counted(t, mixed, 2, 2, 0, 0, 0)
	counted(t, mixed, 3, 0, 0, 0, 0)
	counted(t, mixed, 7, 0, 1, 2, 0)
	counted(t, mixed, 8, 2, 0, 0, 1)

	own := "1/0 1/1 1/2 1/2 1/3"
	for list := 2; list <= 8; list++ {
		for level := range 4 {
			counted(t, own+" "+strconv.Itoa(list)+"/"+strconv.Itoa(level), 1, 1, 1, 2, 1)
		}
	}
}

// TestEachList: every list counts in the same way.
func TestEachList(t *testing.T) {
	for list := 1; list <= 8; list++ {
		l := row("1/0 1/1 1/1 1/2 1/3 1/0 1/2")
		for i := range l {
			l[i].List = list
		}
		got, e := number.Labels(l)
		if e != api.OK || !slices.Equal(got, []string{"1.", "a)", "b)", "i.", "-", "2.", "i."}) {
			t.Errorf("list %d: %q, %v", list, got, e)
		}
		for other := 1; other <= 8; other++ {
			must := []int{0, 0, 0, 0}
			if other == list {
				must = []int{2, 0, 1, 0}
			}
			if n, e := number.Counts(l, other); e != api.OK || !slices.Equal(n, must) {
				t.Errorf("counts of list %d, %d: %v, %v, not %v", list, other, n, e, must)
			}
		}
	}
}

// TestThoseAheadAlone: P4.3, a label hangs on the paragraphs ahead alone, and of these on those of its list alone.
func TestThoseAheadAlone(t *testing.T) {
	next := chance(11)
	l := make([]api.Entry, 60)
	for i := range l {
		l[i] = api.Entry{List: next(9), Level: next(4)}
	}
	all, e := number.Labels(l)
	want(t, "error", e, api.OK)
	for n := range len(l) + 1 {
		ahead, e := number.Labels(l[:n])
		if e != api.OK || !slices.Equal(ahead, all[:n]) {
			t.Errorf("%d ahead: %q, %v, not %q", n, ahead, e, all[:n])
		}
	}
	for list := range 9 {
		var own []api.Entry
		var must []string
		for i, x := range l {
			if x.List == list {
				own, must = append(own, x), append(must, all[i])
			}
		}
		got, e := number.Labels(own)
		if e != api.OK || !slices.Equal(got, must) {
			t.Errorf("list %d alone: %q, %v, not %q", list, got, e, must)
		}
	}
}

// same makes n paragraphs of a list on a level.
func same(n, list, level int) []api.Entry {
	return slices.Repeat([]api.Entry{{List: list, Level: level}}, n)
}

// TestHowMany: P4.2, 3,999 paragraphs and one more.
func TestHowMany(t *testing.T) {
	for list := range 9 {
		for level, label := range []string{"3999.", "ewu)", "mmmcmxcix.", "-"} {
			got, e := number.Labels(same(3999, list, level))
			if e != api.OK || len(got) != 3999 {
				t.Fatalf("%d/%d: %d labels, %v", list, level, len(got), e)
			}
			if list == 0 {
				label = ""
			}
			want(t, "the last label", got[3998], label)
			unlabelled(t, "4,000 paragraphs", same(4000, list, level), api.ErrLong)
		}
	}
	counts, e := number.Counts(same(3999, 8, 2), 8)
	if e != api.OK || !slices.Equal(counts, []int{0, 0, 3999, 0}) {
		t.Errorf("counts of 3,999: %v, %v", counts, e)
	}
	counts, e = number.Counts(same(3999, 0, 2), 8)
	if e != api.OK || !slices.Equal(counts, []int{0, 0, 0, 0}) {
		t.Errorf("counts of 3,999 of no list: %v, %v", counts, e)
	}
	unlabelled(t, "many paragraphs", same(1<<20, 1, 0), api.ErrLong)
}

// TestListsAndLevels: P4.2, which lists and levels paragraphs may have, at each place.
func TestListsAndLevels(t *testing.T) {
	for list := range 9 {
		for level := range 4 {
			if _, e := number.Labels(same(1, list, level)); e != api.OK {
				t.Errorf("%d/%d: %v", list, level, e)
			}
		}
	}
	for _, v := range slices.Concat(below, []int{9, 10, 255, 256, 257}, above) {
		for level := range 4 {
			unlabelled(t, "list "+strconv.Itoa(v), same(1, v, level), api.ErrArg)
		}
	}
	for _, v := range slices.Concat(below, []int{4, 5, 8, 9, 255, 256, 257}, above) {
		for list := range 9 {
			unlabelled(t, "level "+strconv.Itoa(v), same(1, list, v), api.ErrArg)
		}
		unlabelled(t, "both", same(1, v, v), api.ErrArg)
	}
	for at := range 5 {
		for _, x := range row("9/0 -1/0 1/4 1/-1 0/4 0/-1 9/4") {
			l := same(5, 1, 1)
			l[at] = x
			unlabelled(t, "one that is wrong", l, api.ErrArg)
		}
	}
	for _, at := range []int{0, 1, 2000, 3997, 3998} {
		l := same(3999, 1, 1)
		l[at].Level = 4
		unlabelled(t, "one that is wrong of 3,999", l, api.ErrArg)
	}
}

// TestWhichList: P4.2, of which list counts are told.
func TestWhichList(t *testing.T) {
	l := row("1/0 8/0 8/0 0/0")
	counted(t, "1/0 8/0 8/0 0/0", 1, 1, 0, 0, 0)
	counted(t, "1/0 8/0 8/0 0/0", 8, 2, 0, 0, 0)
	for _, list := range slices.Concat(below, []int{0, 9, 10, 255, 256, 257}, above) {
		uncounted(t, "paragraphs that may be", l, list, api.ErrArg)
		uncounted(t, "no paragraphs", nil, list, api.ErrArg)
	}
}

// TestFirstErrorOfMany: P4.2, too many paragraphs with a wrong one, or of a wrong list.
func TestFirstErrorOfMany(t *testing.T) {
	for _, at := range []int{0, 3998, 3999} {
		for _, x := range row("9/0 -1/0 1/4 1/-1") {
			l := same(4000, 1, 0)
			l[at] = x
			unlabelled(t, "too many with a wrong one", l, api.ErrLong)
			for _, list := range []int{math.MinInt, -1, 0, 9, math.MaxInt} {
				uncounted(t, "too many of a wrong list", l, list, api.ErrLong)
			}
		}
	}
	for _, list := range []int{math.MinInt, -1, 0, 9, math.MaxInt} {
		uncounted(t, "too many of a wrong list", same(4000, 1, 0), list, api.ErrLong)
		uncounted(t, "a wrong one of a wrong list", row("9/0"), list, api.ErrArg)
	}
}

// TestListIsLeft: rule 4, the list that was handed in and its spare room are as they were, and its spare room does not count.
func TestListIsLeft(t *testing.T) {
	room := row("1/0 1/1 2/0 0/3 9/9 -1/-1 1/0")
	was := slices.Clone(room)
	l := room[:4]
	labels, e := number.Labels(l)
	if e != api.OK || !slices.Equal(labels, []string{"1.", "a)", "1.", ""}) {
		t.Errorf("labels: %q, %v", labels, e)
	}
	counts, e := number.Counts(l, 1)
	if e != api.OK || !slices.Equal(counts, []int{1, 1, 0, 0}) {
		t.Errorf("counts: %v, %v", counts, e)
	}
	unlabelled(t, "one more", room[:5], api.ErrArg)
	if !slices.Equal(room, was) {
		t.Errorf("the list has become %v", room)
	}

	many := same(5000, 1, 0)
	if s, e := number.Labels(many[:3999]); e != api.OK || len(s) != 3999 {
		t.Errorf("3,999 with room: %d, %v", len(s), e)
	}
}

// TestListChangedBehindTheCall: rule 4, what was answered does not hang on the list any more.
func TestListChangedBehindTheCall(t *testing.T) {
	l := row("1/0 1/1 1/1 2/2")
	labels, _ := number.Labels(l)
	counts, _ := number.Counts(l, 1)
	for i := range l {
		l[i] = api.Entry{List: 9, Level: -1}
	}
	if !slices.Equal(labels, []string{"1.", "a)", "b)", "i."}) {
		t.Errorf("labels have become %q", labels)
	}
	if !slices.Equal(counts, []int{1, 2, 0, 0}) {
		t.Errorf("counts have become %v", counts)
	}
	labelled(t, "1/0 1/1 1/1 2/2", "1. a) b) i.")
}

// TestAnswersAreNewMemory: rule 4, an answer that is changed, its spare room too, changes neither another answer nor a later one.
func TestAnswersAreNewMemory(t *testing.T) {
	text := "1/0 1/1 1/1 0/0 2/2"
	a, _ := number.Labels(row(text))
	b, _ := number.Labels(row(text))
	for i := range a[:cap(a)] {
		a[:cap(a)][i] = "x"
	}
	if !slices.Equal(b, []string{"1.", "a)", "b)", "", "i."}) {
		t.Errorf("labels have become %q", b)
	}
	labelled(t, text, "1. a) b) 0 i.")

	m, _ := number.Counts(row(text), 1)
	n, _ := number.Counts(row(text), 1)
	o, _ := number.Counts(row(text), 2)
	for i := range m[:cap(m)] {
		m[:cap(m)][i] = -7
	}
	if !slices.Equal(n, []int{1, 2, 0, 0}) || !slices.Equal(o, []int{0, 0, 1, 0}) {
		t.Errorf("counts have become %v and %v", n, o)
	}
	counted(t, text, 1, 1, 2, 0, 0)
}

// TestNothingIsKept: P1, what a call answers hangs on its arguments alone, not on the calls ahead of it, refused ones among them.
func TestNothingIsKept(t *testing.T) {
	for range 3 {
		labelled(t, "1/0 1/1 8/0", "1. a) 1.")
		counted(t, "1/0 1/1 8/0", 1, 1, 1, 0, 0)
		unlabelled(t, "a wrong one behind good ones", row("1/0 1/1 8/0 9/0"), api.ErrArg)
		unlabelled(t, "too many", same(4000, 1, 0), api.ErrLong)
		refused(t, 1, 0, api.ErrRange)
		is(t, 1, 28, "ab)")
	}
}

// TestSideBySide: P1 and rule 8, calls in goroutines of their own do not see one another.
func TestSideBySide(t *testing.T) {
	m := newModel()
	var all sync.WaitGroup
	for seed := range 8 {
		all.Go(func() {
			next := chance(uint32(seed))
			for range 50 {
				l := make([]api.Entry, 40)
				for i := range l {
					l[i] = api.Entry{List: next(9), Level: next(4)}
				}
				if got, e := number.Labels(l); e != api.OK || !slices.Equal(got, m.labels(l)) {
					t.Errorf("labels of %v: %q, %v", l, got, e)
				}
				if got, e := number.Counts(l, 1+seed); e != api.OK || !slices.Equal(got, counts(l, 1+seed)) {
					t.Errorf("counts of %v: %v, %v", l, got, e)
				}
			}
		})
	}
	all.Wait()
}
