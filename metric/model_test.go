package metric_test

import (
	"regexp"
	"slices"
	"strings"
	"testing"

	"quire/api"
	"quire/metric"
)

// whole, parts, mark and label are what the words say of texts, clusters, marks and labels, as expressions.
var (
	whole = regexp.MustCompile(`^[\x20-\x7e\x09\x1f\x01\x02]*$`)
	parts = regexp.MustCompile("(?s:[a-zA-Z][\\^`~]{0,2}|.)")
	mark  = regexp.MustCompile(`^[!-~]{1,8}$`)
	label = regexp.MustCompile(`^[!-~]{0,16}$`)
)

// chance tells numbers that look like chance, the same ones each time.
func chance(seed uint32) func(n int) int {
	return func(n int) int {
		seed = seed*1664525 + 1013904223
		return int(seed>>8) % n
	}
}

// paragraph makes a paragraph of so many bytes, cut into spans; most of them may be.
func paragraph(next func(n int) int, n int) api.Para {
	from := []string{"AVTo.Ya", "AVr.,fvyo^~ ", "ab \t\x1f\x01\x02\x02", "iIWm5+-`Av\x02 "}[next(4)]
	text := make([]byte, n)
	for i := range text {
		text[i] = from[next(len(from))]
	}
	p := api.Para{P: api.Props{Size: 1 + next(64), Pitch: 1, Orphan: 1, Widow: 4}, Label: "!~"[:next(3)]}
	for _, b := range text {
		if b == api.Ref {
			p.Marks = append(p.Marks, "*Wi12~!m"[:1+next(8)])
		}
	}
	sizes := []int{0, p.P.Size, 8, 16, 1 + next(64)}
	for at := 0; at < n; {
		s := api.Span{Len: 1 + next(min(n-at, 6)), C: api.Char{Size: sizes[next(5)], Track: next(3), Kern: min(1, next(4))}}
		p.Spans = append(p.Spans, s)
		at += s.Len
	}
	if n > 0 && next(8) == 0 {
		spoil(next, text, &p)
	}
	p.Text = string(text)
	return p
}

// spoil makes something of a paragraph so that it may not be, mostly.
func spoil(next func(n int) int, text []byte, p *api.Para) {
	switch next(6) {
	case 0:
		text[next(len(text))] = byte(next(256))
	case 1:
		p.Spans[next(len(p.Spans))].Len += next(5) - 2
	case 2:
		p.Spans[next(len(p.Spans))].C.Size = 60 + next(10)
	case 3:
		p.Marks = append(p.Marks, "x")
	case 4:
		p.P.Align = next(6) - 1
	case 5:
		p.Label = strings.Repeat("x", 14+next(5))
	}
}

// why tells the error of a paragraph whose properties but Align may be, as the model has it.
func why(p api.Para) api.Errno {
	if !whole.MatchString(p.Text) {
		return api.ErrBytes
	}
	sum := 0
	for _, s := range p.Spans {
		if sum += s.Len; s.Len < 1 || s.C.Size > 64 {
			return api.ErrArg
		}
	}
	if sum != len(p.Text) || p.P.Align < 0 || p.P.Align > 3 || !label.MatchString(p.Label) {
		return api.ErrArg
	}
	if len(p.Marks) != strings.Count(p.Text, "\x02") || slices.ContainsFunc(p.Marks, func(m string) bool { return !mark.MatchString(m) }) {
		return api.ErrArg
	}
	return api.OK
}

// em tells a byte's em, as the model has it.
func em(b byte) int {
	for _, x := range []struct {
		of string
		em int
	}{{"ijl'.,:;!|", 2}, {"ftr()[]{}-\"^_~` I", 3}, {"mw", 7}, {"MW", 8}, {"abcdefghijklmnopqrstuvwxyz0123456789", 5}} {
		if strings.IndexByte(x.of, b) >= 0 {
			return x.em
		}
	}
	return 6 // it is asked only of bytes that may stand in a text
}

// bytesWide tells how wide bytes are, as the model has it.
func bytesWide(text string, size int) int {
	n := 0
	for _, b := range []byte(text) {
		n += em(b) * size / 8
	}
	return n
}

// nearer tells by how much two bytes stand nearer, as the model has it.
func nearer(pair string, size int) int {
	if strings.Contains(" AT AV AW AY TA VA WA YA LT LV LY PA To Ta Te Vo Va Yo Ya ", " "+pair+" ") {
		return -(size / 8)
	}
	if strings.Contains(" r. r, f. f, v. y. Av Ay ov vo ", " "+pair+" ") {
		return -(size / 16)
	}
	return 0
}

// told tells the masses of a paragraph that may be, as the model has them: each byte has its own look here.
func told(p api.Para) []api.Mass {
	var looks []api.Char
	for _, s := range p.Spans {
		if s.C.Size == 0 {
			s.C.Size = p.P.Size
		}
		looks = append(looks, slices.Repeat([]api.Char{s.C}, s.Len)...)
	}
	var out []api.Mass
	marks := p.Marks
	for _, x := range parts.FindAllStringIndex(p.Text, -1) {
		c := looks[x[0]]
		m := api.Mass{From: x[0], To: x[1], Size: c.Size}
		switch b := p.Text[x[0]]; {
		case b >= 'a' && b <= 'z' || b >= 'A' && b <= 'Z':
			m.Kind = api.OfLetter
		case b > ' ':
			m.Kind = api.OfSign
		default:
			m.Kind = map[byte]int{32: api.OfBlank, 9: api.OfTab, 31: api.OfSoft, 1: api.OfAnchor, 2: api.OfRef}[b]
		}
		if m.Kind == api.OfRef {
			m.W, marks = bytesWide(marks[0], c.Size), marks[1:]
		} else if m.Kind <= api.OfBlank {
			m.W = em(p.Text[x[0]])*c.Size/8 + c.Track
		}
		if len(out) > 0 && m.Kind <= api.OfSign && out[len(out)-1].Kind <= api.OfSign {
			a := out[len(out)-1].From
			if looks[a].Kern == 1 && c.Kern == 1 && looks[a].Size == c.Size {
				m.Kern = nearer(p.Text[a:a+1]+p.Text[x[0]:x[0]+1], c.Size)
			}
		}
		out = append(out, m)
	}
	return out
}

// compare holds all that is told of a paragraph against the model.
func compare(t *testing.T, p api.Para) {
	t.Helper()
	if e := why(p); e != api.OK {
		refused(t, p, e)
		return
	}
	must := told(p)
	got, e := metric.Masses(p)
	if e != api.OK || metric.Check(p) != api.OK || !slices.Equal(got, must) {
		t.Fatalf("masses of %q, %v: %v, %v, not %v", short(p.Text), p.Spans, got, e, must)
	}
	joined(t, p.Text, got)
	runs(t, got)
}

// joined tells whether the places of masses, one behind the other, are the text: P7.4.
func joined(t *testing.T, text string, l []api.Mass) {
	t.Helper()
	at := 0
	for _, m := range l {
		if m.From != at || m.To <= m.From {
			t.Fatalf("%q: %v stands at %d", short(text), m, at)
		}
		at = m.To
	}
	if at != len(text) {
		t.Errorf("%q ends at %d", short(text), at)
	}
}

// runs tells whether the natural width of a run is that of two parts of it, and the Kern where they meet: P7.4.
func runs(t *testing.T, l []api.Mass) {
	t.Helper()
	step := max(1, len(l)/7)
	for from := 0; from <= len(l); from += step {
		for to := from; to <= len(l); to += step {
			all, e := metric.Natural(l, from, to)
			if e != api.OK {
				t.Fatalf("natural of %v, %d, %d: %v", some(l), from, to, e)
			}
			for at := from; at <= to; at += step {
				a, _ := metric.Natural(l, from, at)
				b, _ := metric.Natural(l, at, to)
				if at > from && at < to {
					b += l[at].Kern
				}
				if a+b != all {
					t.Errorf("natural of %v, %d, %d: %d, of its parts at %d: %d", some(l), from, to, all, at, a+b)
				}
			}
		}
	}
}

// texts tells all texts of these bytes, up to a length.
func texts(of string, most int) []string {
	out := []string{""}
	for from := 0; len(out[from]) < most; from++ {
		for i := range len(of) {
			out = append(out, out[from]+of[i:i+1])
		}
	}
	return out
}

// TestAllShortTexts: P7.2 to P7.4, all texts of few bytes, some of which may not be, with each byte's look its own, and with one look.
func TestAllShortTexts(t *testing.T) {
	sizes := []int{0, 16, 8, 0, 24}
	for _, text := range append(texts("AV^r. \x02", 4), texts("To\x1f\t\x01\n", 4)...) {
		compare(t, plain(text, api.Char{Kern: 1}))
		compare(t, plain(text, api.Char{Size: 11, Track: 1}))
		p := plain(text, api.Char{})
		p.Spans = nil
		for i := range len(text) {
			p.Spans = append(p.Spans, span(1, sizes[i], i, 1))
		}
		compare(t, p)
	}
}

// TestAllPairs: P7.2 to P7.4, all texts of two bytes, kerned, of sizes that leave something over.
func TestAllPairs(t *testing.T) {
	for a := range 256 {
		for b := range 256 {
			for _, size := range []int{0, 23} {
				compare(t, plain(string([]byte{byte(a), byte(b)}), api.Char{Size: size, Kern: 1}))
			}
		}
	}
}

// TestSplitSpans: P7.2, spans that are cut in two change no mass.
func TestSplitSpans(t *testing.T) {
	next := chance(7)
	for range 500 {
		p := paragraph(next, 1+next(20))
		must, e := metric.Masses(p)
		if e != api.OK {
			continue
		}
		q := p
		q.Spans = nil
		for _, s := range p.Spans {
			q.Spans = append(q.Spans, slices.Repeat([]api.Span{{Len: 1, C: s.C}}, s.Len)...)
		}
		if got, e := metric.Masses(q); e != api.OK || !slices.Equal(got, must) {
			t.Errorf("masses of %q: %v, with its spans cut %v, %v", p.Text, must, got, e)
		}
	}
}

// TestAsWideAsItsBytes: P7.4, without kerning and tracks a text of visible bytes and blanks is as wide as its bytes. (An accent behind a letter is of its cluster, whose width is its first byte's: it is left out here.)
func TestAsWideAsItsBytes(t *testing.T) {
	next := chance(77)
	for range 1000 {
		text := make([]byte, next(80))
		for i := range text {
			for text[i] = byte(32 + next(95)); i > 0 && strings.IndexByte("^`~", text[i]) >= 0; text[i]-- {
			}
		}
		size := 1 + next(64)
		l, e := metric.Masses(plain(string(text), api.Char{Size: size}))
		if e != api.OK {
			t.Fatalf("masses of %q: %v", text, e)
		}
		n, _ := metric.Natural(l, 0, len(l))
		wide(t, string(text), size, n)
	}
	// Accents that stand by themselves are signs, and count.
	for _, text := range []string{"^", "~~", "1^ `", "^^a"} {
		l, _ := metric.Masses(plain(text, api.Char{}))
		n, _ := metric.Natural(l, 0, len(l))
		wide(t, text, 16, n)
	}
}

// TestModel: P7.2 to P7.4, many paragraphs that look like chance.
func TestModel(t *testing.T) {
	next := chance(777)
	good := 0
	for range 6000 {
		p := paragraph(next, next(40))
		compare(t, p)
		if why(p) == api.OK {
			good++
		}
	}
	if good < 4000 || good > 5900 {
		t.Errorf("%d paragraphs may be", good)
	}
}

// TestLongModel: P7.2 to P7.4, paragraphs as long as they may be.
func TestLongModel(t *testing.T) {
	next := chance(7777)
	for range 20 {
		compare(t, paragraph(next, 4096))
	}
}
