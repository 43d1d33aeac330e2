package hyph_test

import (
	"regexp"
	"slices"
	"strings"
	"testing"

	"quire/api"
	"quire/hyph"
)

// The forms of patterns and exceptions, as the model has them, but for how long they may be.
var (
	patternForm   = regexp.MustCompile(`^\.?[0-9]?([a-z][0-9]?)+\.?$`)
	exceptionForm = regexp.MustCompile(`^[a-z]+(-[a-z]+)*$`)
	wordForm      = regexp.MustCompile(`^[a-zA-Z]{1,64}$`)
)

// chance tells numbers that look like chance, the same ones each time.
func chance(seed uint32) func(n int) int {
	return func(n int) int {
		seed = seed*1664525 + 1013904223
		return int(seed>>8) % n
	}
}

// mayPart tells whether a text is a pattern, as the model has it.
func mayPart(s string) bool { return len(s) <= 16 && patternForm.MatchString(s) }

// mayExcept tells whether a text is an exception, as the model has it.
func mayExcept(s string) bool {
	n := len(bare(s))
	return n >= 2 && n <= 64 && exceptionForm.MatchString(s)
}

// bare tells the word of an exception.
func bare(s string) string { return strings.ReplaceAll(s, "-", "") }

// why tells the error of lists of patterns and exceptions, as the model has it.
func why(patterns, exceptions []string) api.Errno {
	if len(patterns) > 256 || len(exceptions) > 64 {
		return api.ErrLong
	}
	for _, s := range patterns {
		if !mayPart(s) {
			return api.ErrBytes
		}
	}
	for _, s := range exceptions {
		if !mayExcept(s) {
			return api.ErrBytes
		}
	}
	for i, s := range exceptions {
		for _, ahead := range exceptions[:i] {
			if bare(s) == bare(ahead) {
				return api.ErrThere
			}
		}
	}
	return api.OK
}

// value tells the value of a place of a word in small letters, as the model has it: each pattern is tried at each place.
func value(patterns []string, word string, k int) int {
	dotted, most := "."+word+".", 0
	for _, p := range patterns {
		letters := strings.Map(func(r rune) rune {
			if r >= '0' && r <= '9' {
				return -1
			}
			return r
		}, p)
		for from := range dotted {
			if !strings.HasPrefix(dotted[from:], letters) {
				continue
			}
			place := from - 1
			for i := range p {
				if p[i] < '0' || p[i] > '9' {
					place++
				} else if place == k {
					most = max(most, int(p[i]-'0'))
				}
			}
		}
	}
	return most
}

// parts tells the points of a word, as the model has it.
func parts(patterns, exceptions []string, word string) []int {
	word = strings.ToLower(word)
	var out []int
	for _, s := range exceptions {
		if bare(s) == word {
			for i := range s {
				if s[i] == '-' {
					out = append(out, len(bare(s[:i])))
				}
			}
			return out
		}
	}
	for k := range word {
		if len(word[:k]) >= 2 && len(word[k:]) >= 3 && value(patterns, word, k)%2 == 1 {
			out = append(out, k)
		}
	}
	return out
}

// compare holds a hyph's points of a text against the model.
func compare(t *testing.T, h *hyph.Hyph, patterns, exceptions []string, word string) {
	t.Helper()
	if !wordForm.MatchString(word) {
		unparted(t, h, word, api.ErrBytes)
		return
	}
	l, e := h.Points(word)
	if must := parts(patterns, exceptions, word); !slices.Equal(l, must) || e != api.OK {
		t.Errorf("%q, %q: points of %s: %v, %v, not %v", patterns, exceptions, word, l, e, must)
	}
}

// texts goes through all texts of up to so many of some bytes.
func texts(bytes string, most int) func(yield func(string) bool) {
	return func(yield func(string) bool) {
		l := []string{""}
		for n := 0; ; n++ {
			var longer []string
			for _, s := range l {
				if !yield(s) {
					return
				}
				for i := range bytes {
					longer = append(longer, s+bytes[i:i+1])
				}
			}
			if n == most {
				return
			}
			l = longer
		}
	}
}

// TestModelItself: the model does as the chapter's examples say.
func TestModelItself(t *testing.T) {
	for _, x := range []struct {
		patterns, exceptions, word string
		must                       []int
	}{
		{plainPatterns, plainExceptions, "TABLE", []int{2}},
		{plainPatterns, plainExceptions, "hyphenation", []int{2, 6, 7}},
		{plainPatterns, plainExceptions, "latena", []int{2}},
		{"1b", "", "abbbbb", []int{2, 3}},
		{"1b b2b", "", "abbbbb", nil},
		{"", "a-bcd", "abcd", []int{1}},
		{".ab1c .ab2cd", "", "abcxyz", []int{2}},
		{".ab1c .ab2cd", "", "abcdef", nil},
	} {
		if l := parts(list(x.patterns), list(x.exceptions), x.word); !slices.Equal(l, x.must) {
			t.Errorf("%s: %v, not %v", x.word, l, x.must)
		}
	}
	for s, must := range map[string]api.Errno{"1": api.ErrBytes, "11a": api.ErrBytes, "a.b": api.ErrBytes, "4le.": api.OK} {
		if e := why([]string{s}, nil); e != must {
			t.Errorf("%s: %v, not %v", s, e, must)
		}
	}
}

// TestAllShortPatterns: P9.1, all texts of up to six bytes of each kind, as patterns.
func TestAllShortPatterns(t *testing.T) {
	for s := range texts("ab1.A", 6) {
		h, e := hyph.New([]string{s}, nil)
		if must := why([]string{s}, nil); e != must || (h == nil) != (e != api.OK) {
			t.Errorf("%q: %v, not %v", s, e, must)
		}
		if h != nil && len(s) < 6 {
			for _, word := range []string{"ababab", "aabbaab", "baaab", "abbab"} {
				compare(t, h, []string{s}, nil, word)
			}
		}
	}
}

// TestAllShortExceptions: P9.1 and P9.2, all texts of up to six bytes of each kind, as exceptions.
func TestAllShortExceptions(t *testing.T) {
	for s := range texts("ab-A1", 6) {
		h, e := hyph.New(nil, []string{s})
		if must := why(nil, []string{s}); e != must || (h == nil) != (e != api.OK) {
			t.Errorf("%q: %v, not %v", s, e, must)
		}
		if h != nil {
			compare(t, h, nil, []string{s}, bare(s))
			compare(t, h, nil, []string{s}, "a"+bare(s))
		}
	}
}

// TestAllShortWords: P9.2 and P9.3, all words of up to nine letters of two, by patterns of them.
func TestAllShortWords(t *testing.T) {
	for _, s := range []string{"a1b", "1a b2a", ".aa1 1bbb. a2b", ".ab3a b4ab 1a", "a1a ab2a aba3 .b4", "1a1 aa2aa bb6b. .a5b"} {
		patterns, exceptions := list(s), list("a-b-b-a ab-ababa b-b")
		h := madeOf(t, patterns, exceptions)
		for word := range texts("ab", 9) {
			compare(t, h, patterns, exceptions, word)
		}
	}
}

// text makes a text of so many of some bytes.
func text(roll func(n int) int, bytes string, n int) string {
	out := make([]byte, n)
	for i := range out {
		out[i] = bytes[roll(len(bytes))]
	}
	return string(out)
}

// pattern makes a pattern, or now and then something near one.
func pattern(roll func(n int) int, letters string) string {
	if roll(200) == 0 {
		return text(roll, letters+"19.A", roll(18))
	}
	var out []byte
	if roll(5) == 0 {
		out = append(out, '.')
	}
	for range 1 + roll(4) {
		if roll(2) == 0 {
			out = append(out, '0'+byte(roll(10)))
		}
		out = append(out, letters[roll(len(letters))])
	}
	if roll(3) == 0 {
		out = append(out, '0'+byte(roll(10)))
	}
	if roll(5) == 0 {
		out = append(out, '.')
	}
	return string(out)
}

// exception makes an exception, or now and then something near one.
func exception(roll func(n int) int, letters string) string {
	if roll(200) == 0 {
		return text(roll, letters+"-A", roll(70))
	}
	out := []byte{letters[roll(len(letters))]}
	for range 1 + roll(6) {
		if roll(3) == 0 {
			out = append(out, '-')
		}
		out = append(out, letters[roll(len(letters))])
	}
	return string(out)
}

// TestModel: P9.1 to P9.3, many lists of patterns and exceptions, many words.
func TestModel(t *testing.T) {
	roll := chance(9)
	made := 0
	for range 4000 {
		letters := []string{"ab", "abc", "abcdef", "abcdefghijklmnopqrstuvwxyz"}[roll(4)]
		patterns, exceptions := make([]string, roll(12)), make([]string, roll(4))
		for i := range patterns {
			patterns[i] = pattern(roll, letters)
		}
		for i := range exceptions {
			exceptions[i] = exception(roll, letters)
		}
		h, e := hyph.New(patterns, exceptions)
		if must := why(patterns, exceptions); e != must || (h == nil) != (e != api.OK) {
			t.Errorf("%q, %q: %v, not %v", patterns, exceptions, e, must)
		}
		if h == nil {
			continue
		}
		made++
		for range 12 {
			word := text(roll, letters+strings.ToUpper(letters), roll(14))
			compare(t, h, patterns, exceptions, word)
		}
		compare(t, h, patterns, exceptions, text(roll, letters, 55+roll(12)))
		for _, s := range exceptions {
			compare(t, h, patterns, exceptions, bare(s))
			compare(t, h, patterns, exceptions, strings.ToUpper(bare(s)))
		}
	}
	if made < 2000 {
		t.Error("too few hyphs: ", made)
	}
}

// TestModelOfMany: P9.1 to P9.3, as many patterns and exceptions as there may be.
func TestModelOfMany(t *testing.T) {
	roll := chance(99)
	for range 12 {
		patterns, exceptions := make([]string, 256), numbered(64, "-ab")
		for i := range patterns {
			for patterns[i] = ""; !mayPart(patterns[i]); {
				patterns[i] = pattern(roll, "abcdefgh")
			}
		}
		h := madeOf(t, patterns, exceptions)
		for range 60 {
			compare(t, h, patterns, exceptions, text(roll, "abcdefgh", 1+roll(30)))
		}
		for _, s := range exceptions {
			compare(t, h, patterns, exceptions, bare(s))
		}
	}
}

// TestPlainModel: P9.1 to P9.3, Plain's points of many words of its patterns' letters.
func TestPlainModel(t *testing.T) {
	roll := chance(999)
	h, patterns, exceptions := hyph.Plain(), list(plainPatterns), list(plainExceptions)
	for range 4000 {
		compare(t, h, patterns, exceptions, text(roll, "taeionlrmpcdsgbh", 1+roll(14)))
	}
	for _, a := range patterns {
		for _, b := range patterns {
			word := strings.Map(func(r rune) rune {
				if r < 'a' {
					return -1
				}
				return r
			}, a+b)
			for _, s := range []string{word, "x" + word, word + "x", "xx" + word + "xxx"} {
				compare(t, h, patterns, exceptions, s)
			}
		}
	}
}
