package cluster_test

import (
	"regexp"
	"slices"
	"strings"
	"testing"

	"quire/api"
	"quire/cluster"
)

// whole and parts are what the chapter's words say, as expressions.
var (
	whole = regexp.MustCompile(`^[\x20-\x7e\x09\x1f\x01\x02\x03]*$`)
	parts = regexp.MustCompile("(?s:[a-zA-Z][\\^`~]{0,2}|.)")
)

// kinds are the expressions of clusters, by their kinds.
var kinds = map[int]*regexp.Regexp{
	api.OfLetter: regexp.MustCompile(`^[a-zA-Z]`),
	api.OfSign:   regexp.MustCompile(`^[^a-zA-Z\x00-\x20]`),
	api.OfBlank:  regexp.MustCompile(`^\x20`),
	api.OfTab:    regexp.MustCompile(`^\x09`),
	api.OfSoft:   regexp.MustCompile(`^\x1f`),
	api.OfAnchor: regexp.MustCompile(`^\x01`),
	api.OfRef:    regexp.MustCompile(`^\x02`),
	api.OfField:  regexp.MustCompile(`^\x03`),
}

// chance tells numbers that look like chance, the same ones each time.
func chance(seed uint32) func(n int) int {
	return func(n int) int {
		seed = seed*1664525 + 1013904223
		return int(seed>>8) % n
	}
}

// some makes a text of so many bytes, most of which may be: now and then one byte is wrong.
func some(next func(n int) int, n int) string {
	from := []string{"aZ^`~", "ab^~ 1", "a^\t\x1f\x01\x02\x03", "xyz`^~ .,-_{}@[\x1f"}[next(4)]
	text := make([]byte, n)
	for i := range text {
		text[i] = from[next(len(from))]
	}
	if n > 0 && next(8) == 0 {
		text[next(n)] = byte(next(256))
	}
	return string(text)
}

// told tells the clusters of a text that may be, as the model has them.
func told(text string) []api.Cluster {
	var out []api.Cluster
	for _, x := range parts.FindAllStringIndex(text, -1) {
		for kind, is := range kinds {
			if is.MatchString(text[x[0]:x[1]]) {
				out = append(out, api.Cluster{From: x[0], To: x[1], Kind: kind})
			}
		}
	}
	return out
}

// places tells the boundaries of clusters of n bytes.
func places(of []api.Cluster, n int) []int {
	var out []int
	for _, c := range of {
		out = append(out, c.From)
	}
	return append(out, n)
}

// why tells the error of a text, as the model has it.
func why(text string) api.Errno {
	if len(text) > 4096 {
		return api.ErrLong
	}
	if !whole.MatchString(text) {
		return api.ErrBytes
	}
	return api.OK
}

// compare holds all that is told of a text against the model.
func compare(t *testing.T, text string) {
	t.Helper()
	if e := why(text); e != api.OK {
		refused(t, text, e)
		return
	}
	must := told(text)
	got, e := cluster.Split(text)
	if e != api.OK || !slices.Equal(got, must) {
		t.Fatalf("split %q: %v, %v, not %v", short(text), got, e, must)
	}
	joined(t, text, got)
	all := places(must, len(text))
	for at := range len(text) + 1 {
		atPlace(t, text, at, all)
	}
	thereAndBack(t, text, all)
}

// joined tells whether clusters, one behind the other, are the text: P6.3.
func joined(t *testing.T, text string, of []api.Cluster) {
	t.Helper()
	var out strings.Builder
	for _, c := range of {
		if c.From != out.Len() || c.To <= c.From {
			t.Fatalf("%q: %v stands at %d", short(text), c, out.Len())
		}
		out.WriteString(text[c.From:c.To])
	}
	if out.String() != text {
		t.Errorf("%q has come together as %q", short(text), short(out.String()))
	}
}

// atPlace holds what is told of a place against a text's boundaries.
func atPlace(t *testing.T, text string, at int, all []int) {
	t.Helper()
	next, prev, start := len(text), 0, 0
	for _, b := range all {
		if b < at {
			prev = b
		}
		if b <= at {
			start = b
		}
	}
	for _, b := range slices.Backward(all) {
		if b > at {
			next = b
		}
	}
	if at < len(text) {
		starts(t, text, at, start)
	} else {
		unstarted(t, text, at, api.ErrRange)
	}
	nexts(t, text, at, next)
	prevs(t, text, at, prev)
	bounds(t, text, at, slices.Contains(all, at))
}

// thereAndBack tells whether Next and Prev go from boundary to boundary, and back: P6.3.
func thereAndBack(t *testing.T, text string, all []int) {
	t.Helper()
	at := 0
	for _, b := range all[1:] {
		nexts(t, text, at, b)
		prevs(t, text, b, at)
		at = b
	}
	if at != len(text) {
		t.Errorf("%q ends at %d", short(text), at)
	}
}

// inTwo tells whether a text in two parts has the clusters of both, but where an accent begins the second: P6.3.
func inTwo(t *testing.T, text string, at int) {
	t.Helper()
	if at < len(text) && strings.IndexByte("^`~", text[at]) >= 0 {
		return
	}
	a, _ := cluster.Split(text[:at])
	b, _ := cluster.Split(text[at:])
	for _, c := range b {
		a = append(a, api.Cluster{From: c.From + at, To: c.To + at, Kind: c.Kind})
	}
	if got, e := cluster.Split(text); e != api.OK || !slices.Equal(got, a) {
		t.Errorf("%q has %v, %v, its parts at %d have %v", short(text), got, e, at, a)
	}
}

// texts tells all texts of these bytes, up to a length.
func texts(of string, most int) []string {
	out := []string{""}
	for from := 0; len(out[from]) < most; from++ {
		for i := range len(of) {
			out = append(out, out[from]+of[i:i+1])
		}
	}
	return out
}

// TestAllShortTexts: P6.1 to P6.3, all texts of few bytes, some of which may not be.
func TestAllShortTexts(t *testing.T) {
	for _, text := range texts("a^~ ", 6) {
		compare(t, text)
	}
	for _, text := range texts("aZ`1\t\n", 4) {
		compare(t, text)
	}
	for _, text := range texts("b~\x1f\x01\x02\x03\x04", 4) {
		compare(t, text)
	}
}

// TestAllPairs: P6.1 to P6.3, all texts of two bytes.
func TestAllPairs(t *testing.T) {
	for a := range 256 {
		for b := range 256 {
			compare(t, string([]byte{byte(a), byte(b)}))
		}
	}
}

// TestTwoParts: P6.3, all short texts in two parts, the empty ones too; and what an accent at the second's beginning changes.
func TestTwoParts(t *testing.T) {
	for _, text := range texts("a^~ 1", 5) {
		for at := range len(text) + 1 {
			inTwo(t, text, at)
		}
	}
	splits(t, "a", 0, 1, api.OfLetter)
	splits(t, "^b", 0, 1, api.OfSign, 1, 2, api.OfLetter)
	splits(t, "a^b", 0, 2, api.OfLetter, 2, 3, api.OfLetter)
}

// TestModel: P6.1 to P6.3, many texts that look like chance.
func TestModel(t *testing.T) {
	next := chance(6)
	good := 0
	for range 4000 {
		text := some(next, next(60))
		compare(t, text)
		if why(text) == api.OK {
			good++
			inTwo(t, text, next(len(text)+1))
		}
	}
	if good < 2000 {
		t.Errorf("only %d texts may be", good)
	}
}

// TestLongModel: P6.1 to P6.3, a text as long as one may be, at each of its places.
func TestLongModel(t *testing.T) {
	next := chance(66)
	text := make([]byte, 4096)
	for i := range text {
		text[i] = "abcXYZ^^^^~~~``  1.\t\x1f\x01\x02\x03"[next(24)]
	}
	compare(t, string(text))
	for at := 0; at <= 4096; at += 64 {
		inTwo(t, string(text), at)
	}
}
