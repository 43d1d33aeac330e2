package number_test

import (
	"slices"
	"strconv"
	"strings"
	"testing"

	"quire/api"
	"quire/number"
)

// words tells the first n words of a to z, by their length and then by the alphabet: each length's words are those of the length below, with a letter behind.
func words(n int) []string {
	var out []string
	for last := []string{""}; len(out) < n; {
		var longer []string
		for _, w := range last {
			for c := 'a'; c <= 'z'; c++ {
				longer = append(longer, w+string(c))
			}
		}
		out = append(out, longer...)
		last = longer
	}
	return out[:n]
}

// digits tells a Roman number digit by digit, as they are learnt by heart.
func digits(n int) string {
	ones := []string{"", "i", "ii", "iii", "iv", "v", "vi", "vii", "viii", "ix"}
	tens := strings.NewReplacer("i", "x", "v", "l", "x", "c")
	hundreds := strings.NewReplacer("i", "c", "v", "d", "x", "m")
	return strings.Repeat("m", n/1000) + hundreds.Replace(ones[n/100%10]) + tens.Replace(ones[n/10%10]) + ones[n%10]
}

// model tells labels as plainly as can be.
type model struct{ words []string }

func newModel() model { return model{words(3999)} }

func (m model) label(level, n int) string {
	return []func() string{
		func() string { return strconv.Itoa(n) + "." },
		func() string { return m.words[n-1] + ")" },
		func() string { return digits(n) + "." },
		func() string { return "-" },
	}[level]()
}

// count tells the count of a list's level behind so many paragraphs: those of the level, back to the last one of a lesser level.
func count(l []api.Entry, list, level int) int {
	n := 0
	for i := len(l) - 1; i >= 0; i-- {
		if l[i].List != list {
			continue
		}
		if l[i].Level < level {
			break
		}
		if l[i].Level == level {
			n++
		}
	}
	return n
}

func (m model) labels(l []api.Entry) []string {
	out := make([]string, len(l))
	for i, x := range l {
		if x.List != 0 {
			out[i] = m.label(x.Level, count(l[:i+1], x.List, x.Level))
		}
	}
	return out
}

func counts(l []api.Entry, list int) []int {
	out := make([]int, 4)
	for level := range out {
		out[level] = count(l, list, level)
	}
	return out
}

// same tells whether all calls answer of paragraphs what the model does.
func (m model) same(t *testing.T, l []api.Entry) {
	t.Helper()
	if got, e := number.Labels(l); e != api.OK || !slices.Equal(got, m.labels(l)) {
		t.Fatalf("labels of %v: %q, %v, not %q", l, got, e, m.labels(l))
	}
	for list := 1; list <= 8; list++ {
		if got, e := number.Counts(l, list); e != api.OK || !slices.Equal(got, counts(l, list)) {
			t.Fatalf("counts of %v, %d: %v, %v, not %v", l, list, got, e, counts(l, list))
		}
	}
}

// TestAllNumbers holds the label of every number on every level against the model.
func TestAllNumbers(t *testing.T) {
	m := newModel()
	for level := range 4 {
		for n := 1; n <= 3999; n++ {
			is(t, level, n, m.label(level, n))
		}
	}
}

// TestAllShortRows goes through all rows of paragraphs of two lists and of none, up to four, and all of one list up to six.
func TestAllShortRows(t *testing.T) {
	m := newModel()
	for _, x := range []struct{ lists, most int }{{3, 4}, {1, 6}} {
		var row func(l []api.Entry)
		row = func(l []api.Entry) {
			m.same(t, l)
			if len(l) == x.most {
				return
			}
			for list := range x.lists {
				for level := range 4 {
					if x.lists == 1 {
						list = 8
					}
					row(append(slices.Clone(l), api.Entry{List: list, Level: level}))
				}
			}
		}
		row(nil)
	}
}

// chance tells numbers that look like chance, the same ones each time.
func chance(seed uint32) func(below int) int {
	return func(below int) int {
		seed = seed*1664525 + 1013904223
		return int(seed>>8) % below
	}
}

// TestLongRows goes through long rows of paragraphs of all lists.
func TestLongRows(t *testing.T) {
	m := newModel()
	for seed, n := range []int{1, 25, 120, 500, 1000, 3998, 3999} {
		next := chance(uint32(seed))
		l := make([]api.Entry, n)
		for i := range l {
			l[i] = api.Entry{List: next(9), Level: next(4)}
		}
		m.same(t, l)
	}
}

// TestLongRowsOfFewLevels goes through rows in which a level's counts come high.
func TestLongRowsOfFewLevels(t *testing.T) {
	m := newModel()
	for level := range 4 {
		next := chance(uint32(100 + level))
		l := make([]api.Entry, 2000)
		for i := range l {
			l[i] = api.Entry{List: 1 + next(2), Level: level}
			if next(500) == 0 {
				l[i].Level = next(4)
			}
		}
		m.same(t, l)
	}
}
