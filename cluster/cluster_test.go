package cluster_test

import (
	"math"
	"slices"
	"strings"
	"sync"
	"testing"

	"quire/api"
	"quire/cluster"
)

// below is places below all that a text has.
var below = []int{math.MinInt, math.MinInt + 1, math.MinInt32 - 1, math.MinInt32, -1 << 16, -4097, -4096, -256, -3, -2, -1}

// above is places above all that a text has.
var above = []int{4097, 4098, 1 << 16, 1<<16 + 1, math.MaxInt32, 1 << 32, 1<<32 + 1, math.MaxInt - 1, math.MaxInt}

// wrong tells the bytes that may not stand in a line's text.
func wrong() []byte {
	good := []byte{1, 2, 3, 9, 31}
	for b := byte(32); b <= 126; b++ {
		good = append(good, b)
	}
	var out []byte
	for b := range 256 {
		if !slices.Contains(good, byte(b)) {
			out = append(out, byte(b))
		}
	}
	return out
}

// short tells a text in a few bytes, for what a test says.
func short(text string) string {
	if len(text) > 40 {
		return text[:40] + ".."
	}
	return text
}

// list makes clusters of their numbers, three by three.
func list(numbers ...int) []api.Cluster {
	var out []api.Cluster
	for x := range slices.Chunk(numbers, 3) {
		out = append(out, api.Cluster{From: x[0], To: x[1], Kind: x[2]})
	}
	return out
}

// splits tells whether a text has these clusters.
func splits(t *testing.T, text string, numbers ...int) {
	t.Helper()
	if got, e := cluster.Split(text); e != api.OK || !slices.Equal(got, list(numbers...)) {
		t.Errorf("split %q: %v, %v, not %v", short(text), got, e, numbers)
	}
}

// starts tells whether Start answers a place.
func starts(t *testing.T, text string, at, must int) {
	t.Helper()
	if n, e := cluster.Start(text, at); n != must || e != api.OK {
		t.Errorf("start of %q at %d: %d, %v, not %d", short(text), at, n, e, must)
	}
}

// nexts tells whether Next answers a place.
func nexts(t *testing.T, text string, at, must int) {
	t.Helper()
	if n, e := cluster.Next(text, at); n != must || e != api.OK {
		t.Errorf("next of %q at %d: %d, %v, not %d", short(text), at, n, e, must)
	}
}

// prevs tells whether Prev answers a place.
func prevs(t *testing.T, text string, at, must int) {
	t.Helper()
	if n, e := cluster.Prev(text, at); n != must || e != api.OK {
		t.Errorf("prev of %q at %d: %d, %v, not %d", short(text), at, n, e, must)
	}
}

// bounds tells whether Bound answers as it must.
func bounds(t *testing.T, text string, at int, must bool) {
	t.Helper()
	if got := cluster.Bound(text, at); got != must {
		t.Errorf("bound of %q at %d: %v, not %v", short(text), at, got, must)
	}
}

// unstarted tells whether Start answers an error, and no place.
func unstarted(t *testing.T, text string, at int, why api.Errno) {
	t.Helper()
	if n, e := cluster.Start(text, at); n != 0 || e != why {
		t.Errorf("start of %q at %d: %d, %v, not %v", short(text), at, n, e, why)
	}
}

// unmoved tells whether Next and Prev answer an error, and no place.
func unmoved(t *testing.T, text string, at int, why api.Errno) {
	t.Helper()
	if n, e := cluster.Next(text, at); n != 0 || e != why {
		t.Errorf("next of %q at %d: %d, %v, not %v", short(text), at, n, e, why)
	}
	if n, e := cluster.Prev(text, at); n != 0 || e != why {
		t.Errorf("prev of %q at %d: %d, %v, not %v", short(text), at, n, e, why)
	}
}

// refused tells whether all calls refuse a text, at places that it has and at others.
func refused(t *testing.T, text string, why api.Errno) {
	t.Helper()
	if l, e := cluster.Split(text); len(l) != 0 || e != why {
		t.Errorf("split %q: %v, %v, not %v", short(text), l, e, why)
	}
	for _, at := range []int{math.MinInt, -1, 0, 1, 2, len(text) - 1, len(text), len(text) + 1, math.MaxInt} {
		unstarted(t, text, at, why)
		unmoved(t, text, at, why)
		bounds(t, text, at, false)
	}
}

// TestExamples: the chapter's table, row by row.
func TestExamples(t *testing.T) {
	splits(t, "a^~^b 1",
		0, 3, api.OfLetter,
		3, 4, api.OfSign,
		4, 5, api.OfLetter,
		5, 6, api.OfBlank,
		6, 7, api.OfSign)

	refused(t, "\n", api.ErrBytes)
	refused(t, strings.Repeat("a", 4097), api.ErrLong)

	starts(t, "a^b", 1, 0)
	unstarted(t, "a^b", 3, api.ErrRange)

	nexts(t, "a^b", 0, 2)
	nexts(t, "a^b", 1, 2)
	nexts(t, "a^b", 3, 3)
	prevs(t, "a^b", 3, 2)
	prevs(t, "a^b", 1, 0)

	bounds(t, "a^b", 1, false)
	bounds(t, "a^b", 3, true)
}

// TestEachByte: P6.1, what each byte from 0 to 255 is, by itself; the bytes and kinds are written as numbers here.
func TestEachByte(t *testing.T) {
	kinds := [256]int{1: 6, 2: 7, 3: 8, 9: 4, 31: 5, 32: 3}
	for b := 33; b <= 126; b++ {
		kinds[b] = 2
	}
	for _, b := range []byte("abcdefghijklmnopqrstuvwxyzABCDEFGHIJKLMNOPQRSTUVWXYZ") {
		kinds[b] = 1
	}
	seen := 0
	for b, kind := range kinds {
		text := string([]byte{byte(b)})
		if kind == 0 {
			refused(t, text, api.ErrBytes)
			continue
		}
		seen++
		splits(t, text, 0, 1, kind)
		starts(t, text, 0, 0)
		unstarted(t, text, 1, api.ErrRange)
		for at := range 2 {
			nexts(t, text, at, 1)
			prevs(t, text, at, 0)
			bounds(t, text, at, true)
		}
		bounds(t, text, -1, false)
		bounds(t, text, 2, false)
	}
	if seen != 100 || len(wrong()) != 156 {
		t.Errorf("%d bytes may be, %d may not", seen, len(wrong()))
	}
}

// TestWrongBytes: P6.1, each byte that may not be, at a text's ends and in its midst, behind a letter's accents and in a long text.
func TestWrongBytes(t *testing.T) {
	long := strings.Repeat("a^", 2047)
	for _, b := range wrong() {
		w := string([]byte{b})
		for _, text := range []string{w + "a", "a" + w, "a" + w + "b", "a^" + w, "a^~" + w + "^", " " + w + "\t", w + w} {
			refused(t, text, api.ErrBytes)
		}
		refused(t, w+long, api.ErrBytes)
		refused(t, long+w, api.ErrBytes)
	}
	for _, text := range []string{"\x00", "\x04", "\n", "\r", "\x1e", "\x7f", "\x80", "\xa0", "\xff", "é", "a\u0302", "𝄞", "ab\ncd", "a\x7f^"} {
		refused(t, text, api.ErrBytes)
	}
}

// TestSoftMayBe: P6.1, the byte 31 is Soft, which may stand in a line's text; its neighbour below it may not.
func TestSoftMayBe(t *testing.T) {
	splits(t, "a\x1f^b\x1f", 0, 1, api.OfLetter, 1, 2, api.OfSoft, 2, 3, api.OfSign, 3, 4, api.OfLetter, 4, 5, api.OfSoft)
	refused(t, "a\x1eb", api.ErrBytes)
}

// TestLongTexts: P6.1 and P11, texts of 4,095, 4,096 and 4,097 bytes, and far longer ones.
func TestLongTexts(t *testing.T) {
	for _, n := range []int{4095, 4096} {
		text := strings.Repeat("a", n)
		l, e := cluster.Split(text)
		if e != api.OK || len(l) != n || l[n-1] != (api.Cluster{From: n - 1, To: n, Kind: api.OfLetter}) {
			t.Errorf("%d bytes: %d clusters, %v", n, len(l), e)
		}
		starts(t, text, n-1, n-1)
		unstarted(t, text, n, api.ErrRange)
		nexts(t, text, n, n)
		nexts(t, text, n-1, n)
		prevs(t, text, n, n-1)
		unmoved(t, text, n+1, api.ErrRange)
		bounds(t, text, n, true)
		bounds(t, text, n+1, false)
	}
	full := strings.Repeat("a^~^", 1024)
	l, e := cluster.Split(full)
	if e != api.OK || len(l) != 2048 || !slices.Equal(l[2046:], list(4092, 4095, api.OfLetter, 4095, 4096, api.OfSign)) {
		t.Errorf("4,096 bytes of letters with three accents: %d clusters, %v", len(l), e)
	}
	starts(t, full, 4094, 4092)
	nexts(t, full, 4093, 4095)
	prevs(t, full, 4095, 4092)
	for _, n := range []int{4097, 4098, 8192, 1 << 16, 1<<16 + 1, 1<<16 + 4096, 1 << 20} {
		for _, b := range []string{"a", "^", " ", "\x01"} {
			refused(t, strings.Repeat(b, n), api.ErrLong)
		}
	}
	refused(t, full+"~", api.ErrLong)
}

// TestNoText: P6.1 and P6.2, the empty text has no cluster, and one boundary.
func TestNoText(t *testing.T) {
	splits(t, "")
	nexts(t, "", 0, 0)
	prevs(t, "", 0, 0)
	bounds(t, "", 0, true)
	unstarted(t, "", 0, api.ErrRange)
	for _, at := range slices.Concat(below, []int{1, 2}, above) {
		unstarted(t, "", at, api.ErrRange)
		unmoved(t, "", at, api.ErrRange)
		bounds(t, "", at, false)
	}
}

// TestAccents: P6.1, each letter with none, one, two, three and more accents behind it, alone and ahead of other bytes.
func TestAccents(t *testing.T) {
	for _, letter := range strings.Split("a b m y z A B M Y Z", " ") {
		for _, accents := range texts("^`~", 4) {
			must := []int{0, 1 + min(len(accents), 2), api.OfLetter}
			for i := 3; i <= len(accents); i++ {
				must = append(must, i, i+1, api.OfSign)
			}
			text := letter + accents
			n := len(text)
			splits(t, text, must...)
			splits(t, text+"x", append(slices.Clone(must), n, n+1, api.OfLetter)...)
			splits(t, text+"0", append(slices.Clone(must), n, n+1, api.OfSign)...)
			splits(t, text+" ^", append(slices.Clone(must), n, n+1, api.OfBlank, n+1, n+2, api.OfSign)...)
		}
	}
	for b := byte('a'); b <= 'z'; b++ {
		for _, letter := range []string{string(rune(b)), string(rune(b - 32))} {
			splits(t, letter+"^~`", 0, 3, api.OfLetter, 3, 4, api.OfSign)
		}
	}
}

// TestOtherBytesAreNoAccents: P6.1, behind a letter each byte but the three accents is a cluster by itself.
func TestOtherBytesAreNoAccents(t *testing.T) {
	for b := range 256 {
		text := "a" + string([]byte{byte(b)})
		l, e := cluster.Split(text)
		switch {
		case slices.Contains(wrong(), byte(b)):
			refused(t, text, api.ErrBytes)
		case b == 94 || b == 96 || b == 126:
			splits(t, text, 0, 2, api.OfLetter)
			bounds(t, text, 1, false)
		default:
			if e != api.OK || len(l) != 2 || l[0] != (api.Cluster{To: 1, Kind: api.OfLetter}) || l[1].From != 1 || l[1].To != 2 {
				t.Errorf("split %q: %v, %v", text, l, e)
			}
			bounds(t, text, 1, true)
		}
	}
}

// TestAccentsAlone: P6.1, accents at the text's beginning, and behind signs, blanks and other bytes, are signs.
func TestAccentsAlone(t *testing.T) {
	for _, accent := range []string{"^", "`", "~"} {
		splits(t, accent, 0, 1, api.OfSign)
		splits(t, accent+accent, 0, 1, api.OfSign, 1, 2, api.OfSign)
		splits(t, accent+"a", 0, 1, api.OfSign, 1, 2, api.OfLetter)
		splits(t, accent+"a"+accent, 0, 1, api.OfSign, 1, 3, api.OfLetter)
		for ahead, kind := range map[string]int{
			" ": api.OfBlank, "\t": api.OfTab, "\x1f": api.OfSoft, "\x01": api.OfAnchor, "\x02": api.OfRef, "\x03": api.OfField,
			"0": api.OfSign, "9": api.OfSign, "!": api.OfSign, "/": api.OfSign, "@": api.OfSign, "[": api.OfSign, "]": api.OfSign,
			"_": api.OfSign, "{": api.OfSign, "}": api.OfSign, "|": api.OfSign, "-": api.OfSign,
		} {
			splits(t, ahead+accent, 0, 1, kind, 1, 2, api.OfSign)
			splits(t, "a"+ahead+accent+"b", 0, 1, api.OfLetter, 1, 2, kind, 2, 3, api.OfSign, 3, 4, api.OfLetter)
			starts(t, ahead+accent, 1, 1)
			nexts(t, ahead+accent, 0, 1)
			prevs(t, ahead+accent, 2, 1)
			bounds(t, ahead+accent, 1, true)
		}
	}
}

// TestPlaces: P6.2, each place of a text, within clusters too.
func TestPlaces(t *testing.T) {
	const text = "a^~^b `c`\x01"
	start := []int{0, 0, 0, 3, 4, 5, 6, 7, 7, 9}
	next := []int{3, 3, 3, 4, 5, 6, 7, 9, 9, 10, 10}
	prev := []int{0, 0, 0, 0, 3, 4, 5, 6, 7, 7, 9}
	bound := []bool{true, false, false, true, true, true, true, true, false, true, true}
	for at, must := range start {
		starts(t, text, at, must)
	}
	for at := range len(text) + 1 {
		nexts(t, text, at, next[at])
		prevs(t, text, at, prev[at])
		bounds(t, text, at, bound[at])
	}
}

// TestPlacesOutOfBounds: P6.2 and P11, places below 0 and past the end.
func TestPlacesOutOfBounds(t *testing.T) {
	for _, text := range []string{"a", "a^", "a^b", "^", "   ", "a^~^b 1", strings.Repeat("a", 4096)} {
		n := len(text)
		for _, at := range slices.Concat(below, []int{n + 1, n + 2}, above) {
			unstarted(t, text, at, api.ErrRange)
			unmoved(t, text, at, api.ErrRange)
			bounds(t, text, at, false)
		}
		unstarted(t, text, n, api.ErrRange)
		starts(t, text, 0, 0)
		nexts(t, text, n, n)
		prevs(t, text, 0, 0)
		bounds(t, text, 0, true)
		bounds(t, text, n, true)
	}
}

// TestOrderOfErrors: P6.1, P6.2 and rule 1, of two errors that apply at once the one that is named first.
func TestOrderOfErrors(t *testing.T) {
	// refused asks at places out of bounds, too.
	refused(t, strings.Repeat("\n", 4097), api.ErrLong)
	refused(t, strings.Repeat("a", 4096)+"\n", api.ErrLong)
	refused(t, "\x7f"+strings.Repeat("a", 4096), api.ErrLong)
	refused(t, strings.Repeat("\x00", 4096), api.ErrBytes)
	refused(t, strings.Repeat("a", 4095)+"\n", api.ErrBytes)
	for _, at := range slices.Concat(below, above) {
		unstarted(t, "\n", at, api.ErrBytes)
		unmoved(t, "\n", at, api.ErrBytes)
		unstarted(t, strings.Repeat("a", 4097), at, api.ErrLong)
		if at != 4097 { // which is that text's end
			unmoved(t, strings.Repeat("a", 4097), at, api.ErrLong)
		}
		unstarted(t, strings.Repeat("\n", 4098), at, api.ErrLong)
	}
}

// TestBoundOfRefusedTexts: P6.2, no place of a text that Split refuses is a boundary, its ends neither.
func TestBoundOfRefusedTexts(t *testing.T) {
	for _, text := range []string{"\n", "a\nb", "ab\x7f", "\x00", strings.Repeat("a", 4097), strings.Repeat("\n", 5000)} {
		for at := -1; at <= len(text)+1; at += max(1, len(text)/16) {
			bounds(t, text, at, false)
		}
		bounds(t, text, 0, false)
		bounds(t, text, len(text), false)
	}
}

// TestAnswersAreNewMemory: rule 4, clusters that are changed, their spare room too, change neither other answers nor later ones.
func TestAnswersAreNewMemory(t *testing.T) {
	const text = "a^~^b 1"
	must := list(0, 3, 1, 3, 4, 2, 4, 5, 1, 5, 6, 3, 6, 7, 2)
	a, _ := cluster.Split(text)
	b, _ := cluster.Split(text)
	for i := range a[:cap(a)] {
		a[:cap(a)][i] = api.Cluster{From: -1, To: -2, Kind: -3}
	}
	a = append(a[:0], api.Cluster{From: 9})
	if !slices.Equal(b, must) {
		t.Errorf("clusters have become %v", b)
	}
	if c, _ := cluster.Split(text); !slices.Equal(c, must) {
		t.Errorf("clusters are told as %v", c)
	}
	starts(t, text, 2, 0)
	nexts(t, text, 0, 3)
	prevs(t, text, 7, 6)
	bounds(t, text, 3, true)
}

// TestNothingIsKept: P1, what a call answers hangs on its arguments alone, not on the calls ahead of it, refused ones among them.
func TestNothingIsKept(t *testing.T) {
	for range 3 {
		splits(t, "a", 0, 1, api.OfLetter)
		splits(t, "^", 0, 1, api.OfSign)
		refused(t, "a\n", api.ErrBytes)
		splits(t, "^a", 0, 1, api.OfSign, 1, 2, api.OfLetter)
		nexts(t, "a^b", 0, 2)
		nexts(t, "a^b", 0, 2)
		unmoved(t, "a^b", 4, api.ErrRange)
		prevs(t, "a^b", 3, 2)
		bounds(t, "a^b", 2, true)
		splits(t, "")
	}
}

// TestSideBySide: P1 and rule 8, calls in goroutines of their own do not see one another.
func TestSideBySide(t *testing.T) {
	var all sync.WaitGroup
	for seed := range 8 {
		all.Go(func() {
			next := chance(uint32(seed))
			for range 200 {
				compare(t, some(next, next(30)))
			}
		})
	}
	all.Wait()
}
