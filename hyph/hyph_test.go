package hyph_test

import (
	"slices"
	"strconv"
	"strings"
	"sync"
	"testing"

	"quire/api"
	"quire/hyph"
)

// list makes a list of texts with blanks between them.
func list(s string) []string { return strings.Fields(s) }

// made makes a hyph of patterns and exceptions that may be.
func made(t *testing.T, patterns, exceptions string) *hyph.Hyph {
	t.Helper()
	return madeOf(t, list(patterns), list(exceptions))
}

// madeOf makes a hyph of lists of patterns and exceptions that may be.
func madeOf(t *testing.T, patterns, exceptions []string) *hyph.Hyph {
	t.Helper()
	h, e := hyph.New(patterns, exceptions)
	if h == nil || e != api.OK {
		t.Fatalf("new of %q, %q: %v, %v", patterns, exceptions, h, e)
	}
	return h
}

// refused tells whether no hyph is made, but an error is told.
func refused(t *testing.T, patterns, exceptions []string, why api.Errno) {
	t.Helper()
	if h, e := hyph.New(patterns, exceptions); h != nil || e != why {
		t.Errorf("new of %d patterns %.50q, %d exceptions %.50q: %v, %v, not %v", len(patterns), patterns[:min(len(patterns), 3)], len(exceptions), exceptions[:min(len(exceptions), 3)], h, e, why)
	}
}

// noPattern tells whether a text is refused as a pattern, by itself, as the first of many and as the last one.
func noPattern(t *testing.T, s string) {
	t.Helper()
	refused(t, []string{s}, nil, api.ErrBytes)
	refused(t, []string{s, "1a", "a2b"}, list("a-b"), api.ErrBytes)
	refused(t, []string{"1a", "a2b", s}, list("a-b"), api.ErrBytes)
}

// noException tells whether a text is refused as an exception, by itself, as the first of many and as the last one.
func noException(t *testing.T, s string) {
	t.Helper()
	refused(t, nil, []string{s}, api.ErrBytes)
	refused(t, list("1a"), []string{s, "a-b", "c-d"}, api.ErrBytes)
	refused(t, list("1a"), []string{"a-b", "c-d", s}, api.ErrBytes)
}

// points tells whether a word may be parted just at some places.
func points(t *testing.T, h *hyph.Hyph, word string, must ...int) {
	t.Helper()
	if l, e := h.Points(word); !slices.Equal(l, must) || e != api.OK {
		t.Errorf("points of %s: %v, %v, not %v", word, l, e, must)
	}
}

// unparted tells whether no points are told of a text, but an error.
func unparted(t *testing.T, h *hyph.Hyph, word string, why api.Errno) {
	t.Helper()
	if l, e := h.Points(word); len(l) != 0 || e != why {
		t.Errorf("points of %.80q: %v, %v, not %v", word, l, e, why)
	}
}

// told tells a word's points.
func told(t *testing.T, h *hyph.Hyph, word string) []int {
	t.Helper()
	l, e := h.Points(word)
	if e != api.OK {
		t.Fatalf("points of %s: %v", word, e)
	}
	return l
}

// upTo makes the numbers from one up to another one.
func upTo(from, to int) []int {
	var out []int
	for n := from; n <= to; n++ {
		out = append(out, n)
	}
	return out
}

// numbered makes so many texts of two letters, all unlike, that end with something.
func numbered(n int, end string) []string {
	out := make([]string, n)
	for i := range out {
		out[i] = string([]byte{'a' + byte(i/26), 'a' + byte(i%26)}) + end
	}
	return out
}

// again makes a list of the same text so many times.
func again(s string, n int) []string { return slices.Repeat([]string{s}, n) }

// as makes so many letters a.
func as(n int) string { return strings.Repeat("a", n) }

// TestExamples: the chapter's table, row by row.
func TestExamples(t *testing.T) {
	p := hyph.Plain()
	points(t, p, "table", 2)
	points(t, p, "TABLE", 2)
	points(t, p, "hyphenation", 2, 6, 7)
	points(t, p, "a")
	points(t, p, "latena", 2)

	points(t, made(t, "1b", ""), "abbbbb", 2, 3)
	points(t, made(t, "1b b2b", ""), "abbbbb")
	points(t, made(t, "", "a-bcd"), "abcd", 1)

	h := made(t, ".ab1c .ab2cd", "")
	points(t, h, "xabcde")
	points(t, h, "abcxyz", 2)
	points(t, h, "abcdef")

	for _, s := range []string{"1", "11a", "a.b", "a 1"} {
		refused(t, []string{s}, nil, api.ErrBytes)
	}
	refused(t, nil, list("ab-c abc"), api.ErrThere)
	refused(t, nil, list("-ab"), api.ErrBytes)
}

// TestHowManyPatterns: P9.1 and P11, no patterns, up to 256 of them, 257 and more, unlike ones and the same one again and again.
func TestHowManyPatterns(t *testing.T) {
	for _, l := range [][]string{nil, {}} {
		points(t, madeOf(t, l, nil), as(10))
		points(t, madeOf(t, l, list("a-b")), "ab", 1)
	}
	for _, n := range []int{1, 2, 255, 256} {
		points(t, madeOf(t, again("1a", n), nil), as(9), 2, 3, 4, 5, 6)
		points(t, madeOf(t, numbered(n, "1"), nil), "xxaaxxx", 4)
		// The last one counts as the others do.
		points(t, madeOf(t, append(again("1a", n-1), "a2a"), nil), as(9))
	}
	for _, n := range []int{257, 258, 512, 65536, 65537} {
		refused(t, again("1a", n), nil, api.ErrLong)
	}
	refused(t, numbered(257, ""), nil, api.ErrLong)
}

// TestHowManyExceptions: P9.1 and P11, no exceptions, up to 64 of them, 65 and more.
func TestHowManyExceptions(t *testing.T) {
	for _, l := range [][]string{nil, {}} {
		points(t, madeOf(t, nil, l), "abcdef")
		points(t, madeOf(t, list("1d"), l), "abcdef", 3)
	}
	for _, n := range []int{1, 2, 63, 64} {
		l := numbered(n, "-x")
		h := madeOf(t, nil, l)
		for _, s := range l {
			points(t, h, strings.ReplaceAll(s, "-", ""), 2)
		}
		points(t, h, "zzx")
	}
	for _, n := range []int{65, 66, 128, 256, 320} {
		refused(t, nil, numbered(n, "-x"), api.ErrLong)
	}
	points(t, madeOf(t, numbered(256, ""), numbered(64, "-x")), "aax", 2)
	refused(t, numbered(257, ""), numbered(64, "-x"), api.ErrLong)
	refused(t, numbered(256, ""), numbered(65, "-x"), api.ErrLong)
	refused(t, numbered(257, ""), numbered(65, "-x"), api.ErrLong)
}

// TestLengthsOfPatterns: P9.1 and P11, 0, 1, 16 and 17 bytes, digits and points among them.
func TestLengthsOfPatterns(t *testing.T) {
	for n := range 17 {
		if n == 0 {
			noPattern(t, "")
			continue
		}
		madeOf(t, []string{as(n)}, nil)
	}
	for _, n := range []int{17, 18, 32, 256, 257, 272, 65536, 65552} {
		noPattern(t, as(n))
	}
	for _, s := range []string{
		"1" + as(15), as(15) + "1", as(8) + "1" + as(7), "." + as(15), as(15) + ".", "." + as(14) + ".",
		"1a1a1a1a1a1a1a1a", "a1a1a1a1a1a1a1a1", ".1a1a1a1a1a1a1a.", ".1a1a1a1a1a1a1a1", "a1a1a1a1a1a1a1a.",
	} {
		madeOf(t, []string{s}, nil)
		noPattern(t, s[:8]+"z"+s[8:])
	}
	// The letters of long patterns are all asked for.
	h := made(t, "aaaaaaaa1bbbbbbb", "")
	points(t, h, "aaaaaaaabbbbbbb", 8)
	points(t, h, "aaaaaaabbbbbbb")
	points(t, h, "aaaaaaaabbbbbb")
	points(t, h, "aaaaaaaabbbbbbbb", 8)
	points(t, made(t, "1a1b1c1d1e1f1g1h", ""), "xxabcdefghxxx", 2, 3, 4, 5, 6, 7, 8, 9)
}

// TestFormOfPatterns: P9.1, patterns of each form, and what is near them.
func TestFormOfPatterns(t *testing.T) {
	for _, s := range []string{
		"a", "z", "1a", "a1", "1a1", "0a", "a0", "9a9", "a1b", "1a2b3", "ab", "abc", "a1bc2d",
		".a", "a.", ".a.", ".1a", "a1.", ".1a1.", ".a1.", ".1a.", ".a1", "1a.", ".0a0.", "1a1.", ".1a1", ".a1b2c.",
	} {
		madeOf(t, []string{s}, nil)
	}
	for _, s := range []string{
		// Digits alone, points alone, both of them.
		"0", "1", "9", "11", "123", ".", "..", "...", ".1", "1.", ".1.", "1.1", ".1.1.",
		// Two digits next to one another.
		"11a", "a11", "a11b", "ab12", "00a", ".11a", "a11.", ".a12b.", "1a1b22c",
		// A point in the midst, or more than one at an end.
		"a.b", "ab.c", ".a.b", "a.b.", ".a.b.", "a..b", "..a", "a..", "..a..", ".a..", "..a.", "1.a.1",
		// A digit ahead of the first point, or behind the last one.
		"1.a", "1.1a", "1.a.", "a.1", "a1.1", ".a.1", "1.a1", "0.a", "a.0",
		// Great letters, and other bytes.
		"A", "Z", "1A", "aB", "Ab", "aBc", ".A.", "a-b", "-", "a 1", " a", "a ", "a\n", "\x00a", "a\x00", "a1\x00b", "ä", "aé", "a\xff",
	} {
		noPattern(t, s)
	}
}

// TestBytesOfPatterns: P9.1, each byte by itself and at each place of a pattern.
func TestBytesOfPatterns(t *testing.T) {
	for n := range 256 {
		b := string([]byte{byte(n)})
		small, digit, point := n >= 'a' && n <= 'z', n >= '0' && n <= '9', n == '.'
		for s, may := range map[string]bool{
			b:               small,
			b + "a":         small || digit || point,
			"a" + b:         small || digit || point,
			"a" + b + "a":   small || digit,
			"." + b + "a":   small || digit,
			"a" + b + ".":   small || digit,
			b + ".a":        false,
			"a." + b:        false,
			"." + b:         small,
			b + ".":         small,
			"." + b + ".":   small,
			"1" + b + "a":   small,
			b + "1a":        small || point,
			"a1" + b:        small || point,
			"a1" + b + "1a": small,
		} {
			if may {
				madeOf(t, []string{s}, nil)
			} else {
				refused(t, []string{s}, nil, api.ErrBytes)
			}
		}
	}
}

// TestLettersOfExceptions: P9.1 and P11, 1, 2, 64 and 65 letters, with and without a - between all of them.
func TestLettersOfExceptions(t *testing.T) {
	for n := 2; n <= 64; n++ {
		points(t, madeOf(t, list("1a"), []string{as(n)}), as(n))
		parted := strings.Repeat("a-", n-1) + "a"
		points(t, madeOf(t, list("a2a"), []string{parted}), as(n), upTo(1, n-1)...)
		points(t, madeOf(t, list("1a"), []string{"a-" + as(n-1)}), as(n), 1)
		points(t, madeOf(t, list("1a"), []string{as(n-1) + "-a"}), as(n), n-1)
	}
	for _, n := range []int{0, 1, 65, 66, 128, 256, 258, 65536, 65538} {
		noException(t, as(n))
		noException(t, strings.Repeat("a-", n)+"a-")
	}
	for _, n := range []int{65, 66, 127, 128, 258, 65538} {
		noException(t, strings.Repeat("a-", n-1)+"a")
		noException(t, "a-"+as(n-1))
		noException(t, as(n-1)+"-a")
	}
}

// TestFormOfExceptions: P9.1, a - first, last, twice in a row, none at all, and bytes that are no small letters.
func TestFormOfExceptions(t *testing.T) {
	points(t, made(t, "", "ab"), "ab")
	points(t, made(t, "", "a-b"), "ab", 1)
	points(t, made(t, "", "ab-c-de"), "abcde", 2, 3)
	for _, s := range []string{
		"", "a", "-", "--", "---", "a-", "-a", "-a-", "-ab", "ab-", "-ab-", "-a-b", "a-b-", "--ab", "ab--", "a--b", "a---b", "a-b--c", "a--b-c", "ab-c--", "--ab-c",
		"A", "AB", "A-b", "a-B", "aB-c", "a1", "a-1", "1-a", "a1b", "a.b", ".ab", "ab.", "a b", " ab", "ab ", "a- b", "a_b", "a–b", "ä-b", "a-é", "a-b\x00", "\x00a-b", "a\xffb", "a\x1fb",
		strings.Repeat("-", 1<<16), "ab" + strings.Repeat("-", 1<<16), strings.Repeat("-", 1<<16) + "ab", strings.Repeat("a-", 63) + "a-", "-" + strings.Repeat("-a", 63),
	} {
		noException(t, s)
	}
	for n := range 256 {
		b := string([]byte{byte(n)})
		small := n >= 'a' && n <= 'z'
		for s, may := range map[string]bool{b + "a": small, "a" + b: small, "a" + b + "a": small || n == '-', b + "-a": small, "a-" + b: small, b + "aa": small, "aa" + b: small} {
			if may {
				madeOf(t, nil, []string{s})
			} else {
				refused(t, nil, []string{s}, api.ErrBytes)
			}
		}
	}
}

// TestTwoExceptionsOfOneWord: P9.1, they are told wherever they stand, and whether they are parted alike or not.
func TestTwoExceptionsOfOneWord(t *testing.T) {
	for _, s := range []string{"abc abc", "abc a-bc", "a-bc abc", "a-bc ab-c", "a-b-c a-b-c", "a-b x-y a-b", "x-y a-b ab", "ab x-y z-z w-w ab", "ab ab ab"} {
		refused(t, nil, list(s), api.ErrThere)
		refused(t, list("1a 1b"), list(s), api.ErrThere)
	}
	for i := 1; i < 64; i++ {
		l := numbered(64, "-x")
		l[i] = "aax"
		refused(t, nil, l, api.ErrThere)
	}
	// Words that are alike, but not the same.
	h := made(t, "", "ab-c abc-d a-b bc bcd-e")
	points(t, h, "abc", 2)
	points(t, h, "abcd", 3)
	points(t, h, "ab", 1)
	points(t, h, "bc")
	points(t, h, "bcde", 3)
	points(t, h, "abcde")
	// A pattern of the same letters is no exception.
	points(t, made(t, "abc1 ab", "ab-c"), "abc", 2)
}

// TestWords: P9.2 and P11, 0, 1, 64 and 65 letters, and bytes that are none.
func TestWords(t *testing.T) {
	h := made(t, "1a", "q-q")
	for n := 1; n <= 64; n++ {
		points(t, h, as(n), upTo(2, n-3)...)
		points(t, h, strings.ToUpper(as(n)), upTo(2, n-3)...)
	}
	for _, n := range []int{0, 65, 66, 128, 256, 257, 320, 65536, 65537, 1 << 20} {
		unparted(t, h, as(n), api.ErrBytes)
		unparted(t, h, strings.ToUpper(as(n)), api.ErrBytes)
	}
	for n := range 256 {
		b := string([]byte{byte(n)})
		may := n >= 'a' && n <= 'z' || n >= 'A' && n <= 'Z'
		for _, s := range []string{b, b + "a", "a" + b, "aa" + b + "aa", b + as(63), as(63) + b, "q" + b + "q"} {
			if may {
				told(t, h, s)
			} else {
				unparted(t, h, s, api.ErrBytes)
			}
		}
		unparted(t, h, as(64)+b, api.ErrBytes)
	}
	for _, s := range []string{" ", "a b", "q-q", ".aaa", "aaa.", "ä", "aaéaa", "aa\u212aaa", "\u017faaaaa", "\x00", "aa\x1faa"} {
		unparted(t, h, s, api.ErrBytes)
		unparted(t, hyph.Plain(), s, api.ErrBytes)
	}
}

// TestOrderOfErrors: P9.1, P9.2 and rule 1, two errors that apply at once, and three.
func TestOrderOfErrors(t *testing.T) {
	twice := list("a-b ab")
	wrong := list("a-b -a")
	// Too many of one list, and what is wrong with it or with the other one.
	refused(t, again("", 257), nil, api.ErrLong)
	refused(t, again("1", 257), nil, api.ErrLong)
	refused(t, again("1a", 257), wrong, api.ErrLong)
	refused(t, again("1a", 257), twice, api.ErrLong)
	refused(t, again("1", 257), wrong, api.ErrLong)
	refused(t, nil, again("", 65), api.ErrLong)
	refused(t, nil, again("ab", 65), api.ErrLong)
	refused(t, list("1"), again("ab", 65), api.ErrLong)
	refused(t, list("1"), numbered(65, "-x"), api.ErrLong)
	// What is no pattern or no exception, and two exceptions of one word.
	refused(t, list("1"), twice, api.ErrBytes)
	refused(t, list("1a 1"), twice, api.ErrBytes)
	refused(t, list("1"), wrong, api.ErrBytes)
	refused(t, nil, list("a-b ab -a"), api.ErrBytes)
	refused(t, nil, list("-a a-b ab"), api.ErrBytes)
	refused(t, nil, list("a-b -a ab"), api.ErrBytes)
	refused(t, nil, list("-a -a"), api.ErrBytes)
	refused(t, nil, append(again("ab", 63), "AB"), api.ErrBytes)
	// No hyph, and no word.
	var none *hyph.Hyph
	for _, s := range []string{"", " ", "a b", as(65)} {
		unparted(t, none, s, api.ErrNil)
		unparted(t, &hyph.Hyph{}, s, api.ErrNil)
	}
}

// TestNoHyph: P9.2 and rule 5, a hyph that is nil, and ones that nobody made.
func TestNoHyph(t *testing.T) {
	copied := *hyph.Plain()
	for _, h := range []*hyph.Hyph{nil, {}, new(hyph.Hyph), &copied} {
		for _, s := range []string{"", "a", "table", "TABLE", "latena", "a b", as(64), as(65)} {
			unparted(t, h, s, api.ErrNil)
		}
	}
	// One that is written over is none any more, and the other one stays.
	h, other := made(t, "1b", "a-bcd"), made(t, "1c", "")
	*h = hyph.Hyph{}
	unparted(t, h, "abcd", api.ErrNil)
	points(t, other, "xxcxx", 2)
	*h = *other
	unparted(t, h, "xxcxx", api.ErrNil)
	points(t, other, "xxcxx", 2)
}

// TestDigitsAndTheirPlaces: P9.2, a digit ahead of each letter of a pattern, and behind the last one.
func TestDigitsAndTheirPlaces(t *testing.T) {
	for s, must := range map[string][]int{
		"abc": nil, "1abc": {3}, "a1bc": {4}, "ab1c": {5}, "abc1": {6},
		"1abc1": {3, 6}, "1a1b1c1": {3, 4, 5, 6}, "1a2b3c4": {3, 5}, "2a1b4c3": {4, 6}, "0a0b0c0": nil, "0a1b0c0": {4},
		"2a2b2c2": nil, "9a8b7c6": {3, 5}, "a1": {4}, "1a": {3}, "1c": {5}, "c1": {6}, "b1": {5}, "1b": {4},
	} {
		points(t, made(t, s, ""), "xyzabcxyz", must...)
	}
	// Each digit by itself: odd ones part, even ones do not.
	for d := range 10 {
		must := upTo(4, 3+d%2)
		points(t, made(t, "a"+strconv.Itoa(d)+"b", ""), "xyzabxyz", must...)
	}
	// A pattern without digits does nothing.
	points(t, made(t, "ab abc bc", ""), "abcabcabc")
	points(t, made(t, "ab abc bc b1c", ""), "abcabcabc", 2, 5)
}

// TestBeginningAndEnd: P9.2, patterns with points stand just where a word begins or ends.
func TestBeginningAndEnd(t *testing.T) {
	h := made(t, ".ab1", "")
	points(t, h, "abxxx", 2)
	points(t, h, "abab")
	points(t, h, "ababx", 2)
	points(t, h, "xabxxx")
	points(t, h, "xxababxxx")

	h = made(t, "1abc.", "")
	points(t, h, "xxabc", 2)
	points(t, h, "xabc")
	points(t, h, "abcabc", 3)
	points(t, h, "abcabcx")
	points(t, h, "xxabcd")
	points(t, h, "xxabcabc", 5)

	h = made(t, ".aa1bbb.", "")
	points(t, h, "aabbb", 2)
	points(t, h, "aabbbb")
	points(t, h, "aaabbb")
	points(t, h, "aabbbaabbb")

	// A point is a letter of its pattern: digits behind the first one and ahead of the last one count places of the word.
	points(t, made(t, ".a1b", ""), "abxxxx")
	points(t, made(t, ".ab1c", ""), "abcxxx", 2)
	points(t, made(t, ".abc1d", ""), "abcdxxx", 3)
	points(t, made(t, "b1cde.", ""), "xabcde", 3)
	points(t, made(t, "bc1de.", ""), "xabcde")
	points(t, made(t, ".1aaaaaa1. a1a", ""), "aaaaaa", 2, 3)
	points(t, made(t, ".1a", ""), "aaaaaaa")
	points(t, made(t, "a1.", ""), "aaaaaaa")
	points(t, made(t, "1a.", ""), "aaaaaaa")
	points(t, made(t, ".a1a a1a.", ""), "aaaaaaa")
	points(t, made(t, ".aa1a a1aaa.", ""), "aaaaaaa", 2, 4)
	points(t, made(t, ".aa1a a1aaa.", ""), "aaaaa", 2)
	// Of one letter, and of as many as a word may have.
	points(t, made(t, ".a. .1a .a1 1a.", ""), "a")
	points(t, made(t, ".aa1a 1aaa.", ""), as(64), 2, 61)
	// Values at both ends have no place: the word's first and last one stay as they are.
	points(t, made(t, ".1aa2 2aaa1.", "a-a"), "aa", 1)
}

// TestNoWordGoesOnAsAnother: P9.2, patterns stand within one word, and its points are no letters of its own.
func TestNoWordGoesOnAsAnother(t *testing.T) {
	h := made(t, "b1a .b1 1a.", "")
	points(t, h, "aaaab")
	points(t, h, "bbaaa", 2)
	points(t, h, "aaaaa")
	points(t, made(t, "1xyz", ""), "abxy")
	points(t, made(t, "ab1cdef", ""), "xxabcde")
	points(t, made(t, "ab1cdef", ""), "xxabcdef", 4)
	points(t, made(t, "ab1cdef a1bcd", ""), "xxabcde", 3)
}

// TestOverlaps: P9.2, patterns that overlap, one in the other, with the same beginning or end, and with themselves.
func TestOverlaps(t *testing.T) {
	points(t, made(t, "ab1c bc1d", ""), "xabcdxx", 3, 4)
	points(t, made(t, "ab1c b2cd", ""), "xabcdxx")
	points(t, made(t, "ab1c b2cd", ""), "xabcxxx", 3)
	points(t, made(t, "ab3c b2cd", ""), "xabcdxx", 3)
	points(t, made(t, "a1b ab1c abc1d abcd1e", ""), "xabcdexxx", 2, 3, 4, 5)
	points(t, made(t, "a1b ab1c abc1d abcd1e", ""), "xabcxexxx", 2, 3)
	points(t, made(t, "abcd1e bcd1e cd1e d1e", ""), "xxcdexx", 4)
	points(t, made(t, "a1b a2bc a3bcd a4bcde", ""), "xxabxxx", 3)
	points(t, made(t, "a1b a2bc a3bcd a4bcde", ""), "xxabcxx")
	points(t, made(t, "a1b a2bc a3bcd a4bcde", ""), "xxabcdx", 3)
	points(t, made(t, "a1b a2bc a3bcd a4bcde", ""), "xxabcde")
	points(t, made(t, "ab2c b1", ""), "xxabcxx")
	points(t, made(t, "aa1a", ""), "aaaaaaaa", 2, 3, 4, 5)
	points(t, made(t, "a1aa2a", ""), "xaaaaxx", 2)
	points(t, made(t, "aba1", ""), "ababaxxx", 3, 5)
	// A pattern that is the beginning of another one counts, whether the other one goes on or not.
	points(t, made(t, "a1b abcdefgh", ""), "xxabcdefgx", 3)
	points(t, made(t, "a1b abcdefgh", ""), "xxabcdefgh", 3)
	points(t, made(t, "abcdefgh a1b", ""), "xxabxxx", 3)
}

// TestMoreThanOnce: P9.2, a pattern counts wherever it stands in a word.
func TestMoreThanOnce(t *testing.T) {
	h := made(t, "a1b", "")
	points(t, h, "ababababab", 3, 5, 7)
	points(t, h, "xabxxabxxabxx", 2, 6, 10)
	points(t, h, "abxxxab")
	points(t, h, "xabxxxabx", 2)
	points(t, made(t, "a1b ba2ba", ""), "abababab")
	points(t, made(t, "a1b ba2ba", ""), "abababxx", 5)
	points(t, made(t, "1a b2a", ""), "aabaaba", 4)
	points(t, made(t, "1a b2a", ""), "aaabaabaaba", 2, 5, 8)
}

// TestSamePatternTwice: P9.2, the same pattern again changes nothing; the same letters with other digits count both.
func TestSamePatternTwice(t *testing.T) {
	for _, s := range []string{"a1b", ".a1b", "a1b.", "1a2b3", "a2b"} {
		for _, word := range []string{"abxxx", "xxabxxx", "xxabx", "xxxab"} {
			points(t, made(t, s+" "+s, ""), word, told(t, made(t, s, ""), word)...)
			points(t, made(t, s+" 1x "+s+" "+s, ""), word, told(t, made(t, "1x "+s, ""), word)...)
		}
	}
	points(t, made(t, "a1b a2b", ""), "xxabxxx")
	points(t, made(t, "a2b a1b", ""), "xxabxxx")
	points(t, made(t, "a2b a3b", ""), "xxabxxx", 3)
	points(t, made(t, "a3b a2b", ""), "xxabxxx", 3)
	points(t, made(t, "1ab ab1", ""), "xxabxxx", 2, 4)
	points(t, made(t, "1ab ab a1b ab1", ""), "xxabxxx", 2, 3, 4)
	points(t, made(t, "a1b ab", ""), "xxabxxx", 3)
	points(t, made(t, "a1b a0b", ""), "xxabxxx", 3)
}

// TestGreatestDigitCounts: P9.2, each two and three digits at one place, of patterns of the same letters and of others.
func TestGreatestDigitCounts(t *testing.T) {
	for a := range 10 {
		for b := range 10 {
			for c := range 10 {
				must := upTo(3, 2+max(a, b, c)%2)
				x, y, z := strconv.Itoa(a), strconv.Itoa(b), strconv.Itoa(c)
				points(t, made(t, "a"+x+"b xa"+y+"b "+z+"bxx", ""), "xxabxxx", must...)
				points(t, made(t, "a"+x+"b a"+y+"b a"+z+"b", ""), "xxabxxx", must...)
				points(t, made(t, ".xxa"+x+" "+y+"b "+z+"bxxx.", ""), "xxabxxx", must...)
			}
		}
	}
}

// TestLettersOnBothSides: P9.2 and P9.3, places with one and two letters ahead, with two and three behind, in words of each length.
func TestLettersOnBothSides(t *testing.T) {
	points(t, made(t, "x1y", ""), "xyaaaa")
	points(t, made(t, "x1y", ""), "axyaaa", 2)
	points(t, made(t, "x1y", ""), "aaxyaa", 3)
	points(t, made(t, "x1y", ""), "aaaxya")
	points(t, made(t, "x1y", ""), "aaaaxy")
	points(t, made(t, "x1y", ""), "axya")
	points(t, made(t, "x1y", ""), "axyaa", 2)
	points(t, made(t, "1x", ""), "xaaaaa")
	points(t, made(t, "x1", ""), "aaaaax")
	for n := 1; n <= 64; n++ {
		for k := range n {
			word := as(k) + "b" + as(n-k-1)
			var must []int
			if k >= 2 && n-k >= 3 {
				must = []int{k}
			}
			points(t, made(t, "1b", ""), word, must...)
			must = nil
			if k+1 >= 2 && n-k-1 >= 3 {
				must = []int{k + 1}
			}
			points(t, made(t, "b1", ""), word, must...)
		}
		points(t, made(t, "1a1", ""), as(n), upTo(2, n-3)...)
	}
}

// TestExceptionsCountAlone: P9.2 and P9.3, of an exception's word just its places, which keep no letters on either side, whatever patterns say.
func TestExceptionsCountAlone(t *testing.T) {
	for _, patterns := range []string{"", "1a 1b 1c 1d 1e 1f", "2a 2b 2c 2d 2e 2f", ".a9b abcde9f."} {
		h := made(t, patterns, "a-bcdef abcdea-f a-b f-e-d-c-b-a bcdef cd-ef de")
		points(t, h, "abcdef", 1)
		points(t, h, "abcdeaf", 6)
		points(t, h, "ab", 1)
		points(t, h, "fedcba", 1, 2, 3, 4, 5)
		points(t, h, "bcdef")
		points(t, h, "cdef", 2)
		points(t, h, "de")
	}
}

// TestGreatAndSmall: P9.3, great and small letters are alike, in words with and without an exception.
func TestGreatAndSmall(t *testing.T) {
	for _, h := range []*hyph.Hyph{hyph.Plain(), made(t, ".la1t te1na. 1b", "ta-b-le a-z")} {
		for _, word := range []string{"table", "latena", "az", "a", "zzbzz", "project", "reaxxx"} {
			must := told(t, h, word)
			for mix := range 1 << len(word) {
				other := []byte(word)
				for i := range other {
					if mix>>i&1 == 1 {
						other[i] -= 'a' - 'A'
					}
				}
				points(t, h, string(other), must...)
			}
		}
	}
	// Each letter, by a pattern and by an exception.
	for b := byte('a'); b <= 'z'; b++ {
		small := string([]byte{b})
		great := strings.ToUpper(small)
		h := madeOf(t, []string{"1" + small}, []string{"a-" + small})
		points(t, h, "xx"+great+"yyy", told(t, h, "xx"+small+"yyy")...)
		if small != "x" && small != "y" {
			points(t, h, "XX"+great+"YYY", 2)
		}
		points(t, h, "A"+great, 1)
		points(t, h, "a"+great, 1)
		points(t, h, "A"+small, 1)
	}
	points(t, hyph.Plain(), "HyPhEnAtIoN", 2, 6, 7)
	points(t, hyph.Plain(), "LATENA", 2)
}

// TestOrderOfPatterns: P9.3, the order of the patterns changes nothing, nor does that of the exceptions.
func TestOrderOfPatterns(t *testing.T) {
	words := []string{"abcabc", "xabcxx", "abcxyz", "xxabcd", "aabbcc", "abcd", "bcda", "abab", "xxcabx"}
	patterns, exceptions := list("a1b ab2c 3bc abc4 .ab5c"), list("a-bcd bc-da ab-ab")
	h := madeOf(t, patterns, exceptions)
	for order := range orders(len(patterns)) {
		mixed := make([]string, len(patterns))
		for i, n := range order {
			mixed[i] = patterns[n]
		}
		other := madeOf(t, mixed, slices.Concat(exceptions[order[0]%3:], exceptions[:order[0]%3]))
		for _, word := range words {
			points(t, other, word, told(t, h, word)...)
		}
	}
	points(t, h, "xabcxx", 2)
	points(t, h, "abcxyz", 2)
	points(t, h, "xxabcd", 3)
}

// orders goes through all orders of n numbers.
func orders(n int) func(yield func([]int) bool) {
	return func(yield func([]int) bool) {
		var fill func(l []int) bool
		fill = func(l []int) bool {
			if len(l) == n {
				return yield(l)
			}
			for i := range n {
				if !slices.Contains(l, i) && !fill(append(slices.Clip(l), i)) {
					return false
				}
			}
			return true
		}
		fill(nil)
	}
}

// TestEvenTakesAway: P9.3, a pattern with an even digit as great as all others at its places takes points away, and makes none.
func TestEvenTakesAway(t *testing.T) {
	words := []string{"abcabcabc", "xxabcxx", "aabbccaabb", "cbacba", "bbbbbbb", "abcdefg"}
	for _, base := range []string{"", "1a", "1b 1c", "a1b b1c c1a", "a7b b5c 3a", "1a 2b 3c 4a 5b 6c 7ab 7bc", "7a7 7b7 7c7"} {
		h := made(t, base, "")
		for _, more := range []string{"8a", "8b", "a8b", "b8c", "ab8", ".ab8c", "8abc.", "8a8b8c8", "8x"} {
			with := made(t, base+" "+more, "")
			for _, word := range words {
				before, after := told(t, h, word), told(t, with, word)
				letters := strings.Trim(strings.ReplaceAll(more, "8", ""), ".")
				for _, k := range after {
					if !slices.Contains(before, k) {
						t.Errorf("%s and %s: %s: %d is made", base, more, word, k)
					}
				}
				if !strings.Contains(word, letters) && !slices.Equal(before, after) {
					t.Errorf("%s and %s: %s: %v have become %v", base, more, word, before, after)
				}
			}
		}
	}
	// As great as the others, and less.
	points(t, made(t, "a3b", ""), "xxabxxx", 3)
	points(t, made(t, "a3b a4b", ""), "xxabxxx")
	points(t, made(t, "a3b a2b", ""), "xxabxxx", 3)
	points(t, made(t, "a4b xa4b", ""), "xxabxxx")
	points(t, made(t, "a5b xa4b", ""), "xxabxxx", 3)
	points(t, made(t, "a4b xa4b a4bx", ""), "xxabxxx")
	points(t, made(t, "a1b b1a 4a", ""), "xababxx", 2, 4)
	points(t, made(t, "a1b b1a 4b", ""), "xababxx", 3)
}

// plainPatterns and plainExceptions are what the chapter lists for Plain.
const (
	plainPatterns   = "1ta 1te 1ti 1to 1na 1ne 1ni 1la 1le 1li 1ra 1re 1ma 1me 1pa 1pe 1ca 1co 1de 1sa 1ge 1bl t2te l2le n2ne r2re 2ble. 4le. .re3a 1phe"
	plainExceptions = "ta-ble pro-ject hy-phen-a-tion"
)

// TestPlain: P9.1, Plain has the patterns and the exceptions that the chapter lists, and no others.
func TestPlain(t *testing.T) {
	h, same := hyph.Plain(), made(t, plainPatterns, plainExceptions)
	for _, s := range list(plainPatterns)[:22] { // each 1 ahead of two letters
		points(t, h, "xx"+s[1:]+"xxx", 2)
		points(t, h, "x"+s[1:]+"xxxx")
		points(t, h, "xxx"+s[1:]+"x", 3)
		points(t, h, "xxx"+s[1:])
		points(t, h, "yyyy"+s[1:]+"y"+s[1:]+"y", 4, 7)
	}
	points(t, h, "xxphexx", 2)
	points(t, h, "xxphoxx")
	for _, s := range []string{"tte", "lle", "nne", "rre"} {
		points(t, h, "xx"+s+"xxx")
		points(t, h, "xx"+s[1:]+"xxxx", 2)
	}
	points(t, h, "xxxble")
	points(t, h, "xxxblex", 3, 4)
	points(t, h, "xxxblexx", 3, 4)
	points(t, h, "reaxx", 2)
	points(t, h, "rexax")
	points(t, h, "xreaxxx")
	points(t, h, "xxreaxx", 2)
	points(t, h, "project", 3)
	points(t, h, "projects")
	points(t, h, "tables", 2, 3)
	points(t, h, "hyphenations", 2, 5, 7)
	// Two letters that are no pattern of it part nothing.
	for a := byte('a'); a <= 'z'; a++ {
		for b := byte('a'); b <= 'z'; b++ {
			for _, c := range []byte("axe") {
				word := "xx" + string([]byte{a, b, c}) + "qqq"
				points(t, h, word, told(t, same, word)...)
			}
		}
	}
	if h == hyph.Plain() {
		t.Error("the same hyph again")
	}
}

// TestPlainOfWords: P9.1 and P9.2, what Plain says of words, worked out by hand.
func TestPlainOfWords(t *testing.T) {
	h := hyph.Plain()
	for word, must := range map[string][]int{
		"letter": nil, "later": {2}, "material": {2}, "national": {2, 5}, "reaction": {2, 4}, "preaction": {5},
		"cable": nil, "capable": {2}, "collect": nil, "dinner": nil, "current": nil, "telephone": {2}, "atmosphere": {5},
		"decoration": {2, 4, 6}, "management": {2, 4, 6}, "lemonade": {4}, "separate": {2, 4}, "potato": {2}, "tomato": {2},
		"salami": {2}, "finite": {2}, "politic": {2, 4}, "message": {3}, "generation": {2, 4, 6}, "paperless": {2, 5}, "encapsulate": {2, 7},
		"i": nil, "of": nil, "the": nil, "late": nil, "rhythm": nil,
	} {
		points(t, h, word, must...)
		points(t, h, strings.ToUpper(word), must...)
	}
}

// TestListsStayAsTheyWere: rule 4, a list that is handed in is not changed, its spare room neither read nor written.
func TestListsStayAsTheyWere(t *testing.T) {
	patterns := append([]string{"11"}, list("a1b b1c")...)
	patterns = append(patterns, "a2b", "", "1.")
	exceptions := append([]string{"-"}, list("a-z b-z")...)
	exceptions = append(exceptions, "az", "z-", "")
	keptPatterns, keptExceptions := slices.Clone(patterns), slices.Clone(exceptions)
	h := madeOf(t, patterns[1:3], exceptions[1:3])
	points(t, h, "xxabcxxx", 3, 4)
	points(t, h, "az", 1)
	points(t, madeOf(t, patterns[1:4], exceptions[1:3]), "xxabcxxx", 4)
	points(t, madeOf(t, patterns[1:1], exceptions[1:1]), "xxabcxxx")
	refused(t, patterns[1:3], exceptions[1:4], api.ErrThere)
	refused(t, patterns[1:5], exceptions[1:4], api.ErrBytes)
	refused(t, patterns[1:3], exceptions[1:5], api.ErrBytes)
	if !slices.Equal(patterns, keptPatterns) || !slices.Equal(exceptions, keptExceptions) {
		t.Errorf("lists have become %q and %q", patterns, exceptions)
	}
	many := again("1a", 300)
	many[256] = ""
	points(t, madeOf(t, many[:256], nil), "xxaxx", 2)
	refused(t, many[:257], nil, api.ErrLong)
}

// TestListsThatChange: rule 4, lists that were handed in and are changed afterwards leave the hyph as it was.
func TestListsThatChange(t *testing.T) {
	patterns, exceptions := list("a1b b1c"), list("a-z b-z")
	h := madeOf(t, patterns, exceptions)
	patterns[0], patterns[1] = "a2b", "11"
	exceptions[0], exceptions[1] = "az", "-"
	for range 2 {
		points(t, h, "xxabcxxx", 3, 4)
		points(t, h, "az", 1)
		points(t, h, "bz", 1)
	}
	patterns, exceptions = list("a2b"), list("az")
	other := madeOf(t, patterns, exceptions)
	points(t, other, "xxabcxxx")
	points(t, other, "az")
	points(t, h, "xxabcxxx", 3, 4)
	points(t, h, "az", 1)
}

// TestAnswersAreNewMemory: rule 4, an answer that is written over, its spare room too, leaves the hyph and all other answers as they were.
func TestAnswersAreNewMemory(t *testing.T) {
	h := made(t, "1a 1b 1c", "a-b-c-d-e z-y zy-xw")
	for word, must := range map[string][]int{"abcde": {1, 2, 3, 4}, "zy": {1}, "zyxw": {2}, "abcabcabc": {2, 3, 4, 5, 6}, "xxaxx": {2}, "xxx": nil, "abcdef": {2}} {
		first, second := told(t, h, word), told(t, h, word)
		for _, l := range [][]int{first, first[:cap(first)]} {
			for i := range l {
				l[i] = -7
			}
			_ = append(l, 1, 2, 3)
		}
		if !slices.Equal(second, must) {
			t.Errorf("%s: %v, not %v", word, second, must)
		}
		third := told(t, h, word)
		_ = append(second[:0], 9, 9, 9, 9)
		if !slices.Equal(third, must) {
			t.Errorf("%s: %v, not %v", word, third, must)
		}
		points(t, h, word, must...)
	}
}

// TestHyphsApart: P1, what is made of one hyph, or refused, changes no other one.
func TestHyphsApart(t *testing.T) {
	a := made(t, "a1b", "a-z")
	b := made(t, "a2b b1a", "az")
	p := hyph.Plain()
	for range 2 {
		points(t, a, "xxabaxxx", 3)
		points(t, a, "az", 1)
		points(t, b, "xxabaxxx", 4)
		points(t, b, "az")
		points(t, p, "xxabaxxx")
		points(t, p, "table", 2)
		refused(t, list("a3b 1"), list("a-z"), api.ErrBytes)
		refused(t, list("a3b"), list("a-z az"), api.ErrThere)
		made(t, "a9b ta8b", "table")
	}
}

// TestNothingIsKept: P1, what was asked ahead, and what was refused, changes no answer.
func TestNothingIsKept(t *testing.T) {
	words := []string{"abcabc", "", "az", "AZ", "a b", "xxabxx", "XXABXX", as(64), as(65), "ab", "abcabcabcabc", "a"}
	h := made(t, "a1b b1c 1a ab2c. .ab3c", "a-z")
	for _, first := range words {
		for _, second := range words {
			l, e := made(t, "a1b b1c 1a ab2c. .ab3c", "a-z").Points(second)
			h.Points(first)
			got, e2 := h.Points(second)
			if !slices.Equal(l, got) || e != e2 {
				t.Errorf("%s behind %s: %v, %v, not %v, %v", second, first, got, e2, l, e)
			}
		}
	}
}

// TestSideBySide: P1, one hyph may be asked, and others be made, by many at once.
func TestSideBySide(t *testing.T) {
	h := hyph.Plain()
	var all sync.WaitGroup
	for n := range 8 {
		all.Go(func() {
			for range 200 {
				points(t, h, "decoration", 2, 4, 6)
				points(t, h, "hyphenation", 2, 6, 7)
				points(t, hyph.Plain(), "latena", 2)
				unparted(t, h, "a b", api.ErrBytes)
				if n%2 == 0 {
					refused(t, list("1"), nil, api.ErrBytes)
				}
			}
		})
	}
	all.Wait()
}
