package item_test

import (
	"math"
	"slices"
	"strings"
	"sync"
	"testing"

	"quire/api"
	"quire/item"
	"quire/metric"
)

// far is numbers that are out of all bounds.
var far = []int{math.MinInt, math.MinInt + 1, math.MinInt32 - 1, math.MinInt32, -1 << 20, -1 << 16, -4096, -2, 1 << 20, math.MaxInt32, math.MaxInt32 + 1, 1 << 32, 1<<32 + 1, math.MaxInt - 1, math.MaxInt}

// plain makes a paragraph of Size 8 with one span, and a mark to each Ref.
func plain(text string) api.Para {
	p := api.Para{Text: text, P: api.Props{Size: 8, Pitch: 12, Orphan: 1, Widow: 1}}
	if text != "" {
		p.Spans = []api.Span{{Len: len(text)}}
	}
	for range strings.Count(text, "\x02") {
		p.Marks = append(p.Marks, "1")
	}
	return p
}

// hyphened makes such a paragraph, whose words may be parted.
func hyphened(text string) api.Para {
	p := plain(text)
	p.P.Hyphen = 1
	return p
}

// dropped makes such a paragraph with a drop capital of so many lines.
func dropped(text string, lines int) api.Para {
	p := plain(text)
	p.P.Drop = lines
	return p
}

// looking tells a paragraph with other spans.
func looking(p api.Para, l ...api.Span) api.Para {
	p.Spans = l
	return p
}

// span makes a span of its numbers.
func span(n, size, track, kern int) api.Span {
	return api.Span{Len: n, C: api.Char{Size: size, Track: track, Kern: kern}}
}

func box(from, to, w int) api.Item { return api.Item{Kind: api.Box, From: from, To: to, W: w} }

func leap(at int) api.Item { return api.Item{Kind: api.Leap, From: at, To: at + 1} }

// glue makes the Glue of a blank.
func glue(at, w int) api.Item {
	return api.Item{Kind: api.Glue, From: at, To: at + 1, W: w, Stretch: w / 2, Shrink: w / 3}
}

// soft makes the Penalty of a Soft.
func soft(at, w int) api.Item {
	return api.Item{Kind: api.Penalty, From: at, To: at + 1, W: w, Cost: 50, Hyphen: true}
}

// within makes the Penalty at a place within a word.
func within(at, w int) api.Item {
	return api.Item{Kind: api.Penalty, From: at, To: at, W: w, Cost: 100, Hyphen: true}
}

// behind makes the Penalty behind a sign -.
func behind(at int) api.Item { return api.Item{Kind: api.Penalty, From: at, To: at, Cost: 50} }

// short tells a text in a few bytes, for what a test says.
func short(text string) string {
	if len(text) > 40 {
		return text[:40] + ".."
	}
	return text
}

// few tells the first few of a list, for what a test says.
func few[T any](l []T) []T { return l[:min(len(l), 8)] }

// has tells whether a paragraph has these items.
func has(t *testing.T, p api.Para, must ...api.Item) []api.Item {
	t.Helper()
	l, e := item.Items(p)
	if e != api.OK || !slices.Equal(l, must) {
		t.Errorf("items of %q, %v, %v: %v, %v, not %v", short(p.Text), few(p.Spans), p.P, few(l), e, few(must))
	}
	return l
}

// refused tells whether a paragraph is answered with an error, and no items.
func refused(t *testing.T, p api.Para, why api.Errno) {
	t.Helper()
	if l, e := item.Items(p); len(l) != 0 || e != why || metric.Check(p) != why {
		t.Errorf("items of %q, %v, %v: %v, %v, not %v", short(p.Text), few(p.Spans), p.P, few(l), e, why)
	}
}

// checked tells whether items may be, or why not; with an error no call tells anything of them.
func checked(t *testing.T, why api.Errno, l ...api.Item) {
	t.Helper()
	if e := item.Check(l); e != why {
		t.Errorf("check of %d items %v: %v, not %v", len(l), few(l), e, why)
	}
	if ok := item.Legal(l, len(l)); ok != (why == api.OK) {
		t.Errorf("legal of %d items %v: %v", len(l), few(l), ok)
	}
	if n, e := item.Start(l, len(l)); e != why || n != len(l)*ifOK(why) {
		t.Errorf("start of %d items %v: %d, %v, not %v", len(l), few(l), n, e, why)
	}
	if n, e := item.Width(l, len(l), len(l), 0); n != 0 || e != why {
		t.Errorf("width of %d items %v: %d, %v, not %v", len(l), few(l), n, e, why)
	}
	if n, m, e := item.Give(l, len(l), len(l)); n != 0 || m != 0 || e != why {
		t.Errorf("give of %d items %v: %d, %d, %v, not %v", len(l), few(l), n, m, e, why)
	}
}

// ifOK tells 1 without an error, else 0.
func ifOK(e api.Errno) int {
	if e == api.OK {
		return 1
	}
	return 0
}

// starts tells whether Start answers a place.
func starts(t *testing.T, l []api.Item, i, must int) {
	t.Helper()
	if n, e := item.Start(l, i); n != must || e != api.OK {
		t.Errorf("start of %v, %d: %d, %v, not %d", few(l), i, n, e, must)
	}
}

// wide tells whether Width answers a number.
func wide(t *testing.T, l []api.Item, a, b, x, must int) {
	t.Helper()
	if n, e := item.Width(l, a, b, x); n != must || e != api.OK {
		t.Errorf("width of %v, %d, %d, %d: %d, %v, not %d", few(l), a, b, x, n, e, must)
	}
}

// gives tells whether Give answers two numbers.
func gives(t *testing.T, l []api.Item, a, b, stretch, shrink int) {
	t.Helper()
	if n, m, e := item.Give(l, a, b); n != stretch || m != shrink || e != api.OK {
		t.Errorf("give of %v, %d, %d: %d, %d, %v, not %d, %d", few(l), a, b, n, m, e, stretch, shrink)
	}
}

// untold tells whether Width and Give answer an error, and no number.
func untold(t *testing.T, l []api.Item, a, b, x int, why api.Errno) {
	t.Helper()
	if n, e := item.Width(l, a, b, x); n != 0 || e != why {
		t.Errorf("width of %v, %d, %d, %d: %d, %v, not %v", few(l), a, b, x, n, e, why)
	}
	if n, m, e := item.Give(l, a, b); n != 0 || m != 0 || e != why {
		t.Errorf("give of %v, %d, %d: %d, %d, %v, not %v", few(l), a, b, n, m, e, why)
	}
}

// TestExamples: the chapter's table, row by row.
func TestExamples(t *testing.T) {
	l := has(t, plain("a b"),
		api.Item{Kind: api.Box, From: 0, To: 1, W: 5},
		api.Item{Kind: api.Glue, From: 1, To: 2, W: 3, Stretch: 1, Shrink: 1},
		api.Item{Kind: api.Box, From: 2, To: 3, W: 5})

	for i, must := range []bool{false, true, false, true} {
		if item.Legal(l, i) != must {
			t.Errorf("legal %d is not %v", i, must)
		}
	}
	starts(t, l, 1, 2)
	wide(t, l, 0, 1, 0, 5)
	wide(t, l, 0, 3, 0, 13)
	wide(t, l, 0, 2, 0, 5)

	has(t, plain("a-b"),
		api.Item{Kind: api.Box, From: 0, To: 2, W: 8},
		api.Item{Kind: api.Penalty, From: 2, To: 2, W: 0, Cost: 50},
		api.Item{Kind: api.Box, From: 2, To: 3, W: 5})

	has(t, hyphened("table"),
		api.Item{Kind: api.Box, From: 0, To: 2, W: 8},
		api.Item{Kind: api.Penalty, From: 2, To: 2, W: 3, Cost: 100, Hyphen: true},
		api.Item{Kind: api.Box, From: 2, To: 5, W: 12})

	l = has(t, plain("a\tb"), box(0, 1, 5), api.Item{Kind: api.Leap, From: 1, To: 2}, box(2, 3, 5))
	wide(t, l, 0, 3, 0, 53)
	wide(t, l, 0, 3, 40, 13)

	refused(t, plain("a\n"), api.ErrBytes)
	refused(t, looking(plain("a")), api.ErrArg)
	refused(t, plain(strings.Repeat("a", 4097)), api.ErrLong)
}

// TestKinds: P10.1, a mass of each kind by itself, twice, and first, last and in the midst of others.
func TestKinds(t *testing.T) {
	has(t, plain(""))
	for text, must := range map[string]api.Item{
		"a": box(0, 1, 5), "M": box(0, 1, 8), "a^": box(0, 2, 5), "a^~": box(0, 3, 5),
		"1": box(0, 1, 5), ".": box(0, 1, 2), "^": box(0, 1, 3), "-": box(0, 1, 3),
		"\x01": box(0, 1, 0), "\x02": box(0, 1, 5),
		" ": glue(0, 3), "\t": leap(0), "\x1f": soft(0, 3),
	} {
		has(t, plain(text), must)
	}
	has(t, plain("  "), glue(0, 3), glue(1, 3))
	has(t, plain("\t\t"), leap(0), leap(1))
	has(t, plain("\x1f\x1f"), soft(0, 3), soft(1, 3))
	has(t, plain("\x01\x01"), box(0, 2, 0))
	has(t, plain("\x02\x02"), box(0, 2, 10))
	has(t, plain("a1.^\x01\x02b^~m"), box(0, 10, 5+5+2+3+0+5+5+7))
	has(t, plain(" \t\x1f "), glue(0, 3), leap(1), soft(2, 3), glue(3, 3))
	has(t, plain(" a\tb\x1fc "), glue(0, 3), box(1, 2, 5), leap(2), box(3, 4, 5), soft(4, 3), box(5, 6, 5), glue(6, 3))
	has(t, plain("\x1f\x01 1\t\x02"), soft(0, 3), box(1, 2, 0), glue(2, 3), box(3, 4, 5), leap(4), box(5, 6, 5))
	has(t, plain("\ta^\x1f^ "), leap(0), box(1, 3, 5), soft(3, 3), box(4, 5, 3), glue(5, 3))
}

// TestBlanks: P10.1, a Glue of each size and track: half of its W, a third of it, rounded down.
func TestBlanks(t *testing.T) {
	for size := 1; size <= 64; size++ {
		for track := range 16 {
			w := 3*size/8 + track
			half, third := 0, 0
			for ; (half+1)*2 <= w; half++ {
			}
			for ; (third+1)*3 <= w; third++ {
			}
			has(t, looking(plain(" "), span(1, size, track, 0)), api.Item{Kind: api.Glue, From: 0, To: 1, W: w, Stretch: half, Shrink: third})
		}
	}
}

// TestHyphensWidths: P10.1, the W of the Penalties of each size: the byte - alone, without a track.
func TestHyphensWidths(t *testing.T) {
	for size := 1; size <= 64; size++ {
		for _, track := range []int{0, 1, 15} {
			w := 3 * size / 8
			has(t, looking(plain("\x1f"), span(1, size, track, 1)), soft(0, w))
			small, thin := 5*size/8, 2*size/8
			has(t, looking(hyphened("table"), span(5, size, track, 0)),
				box(0, 2, w+small+2*track), within(2, w), box(2, 5, small+thin+small+3*track))
			has(t, looking(plain("a-b"), span(3, size, track, 0)),
				box(0, 2, small+w+2*track), behind(2), box(2, 3, small+track))
			p := plain("\x1f")
			p.P.Size = size
			has(t, p, soft(0, w))
		}
	}
	has(t, looking(plain("a\x1fb"), span(1, 8, 0, 0), span(1, 16, 0, 0), span(1, 32, 0, 0)), box(0, 1, 5), soft(1, 6), box(2, 3, 20))
}

// TestSigns: P10.1, a sign - that is a run's first mass, its last one, two and more in a row, next to masses of each kind.
func TestSigns(t *testing.T) {
	for text, must := range map[string][]api.Item{
		"--":           {box(0, 2, 6)},
		"---":          {box(0, 3, 9)},
		"-b":           {box(0, 2, 8)},
		"--b":          {box(0, 2, 6), behind(2), box(2, 3, 5)},
		"---b":         {box(0, 3, 9), behind(3), box(3, 4, 5)},
		"a-":           {box(0, 2, 8)},
		"a--":          {box(0, 3, 11)},
		"a- b":         {box(0, 2, 8), glue(2, 3), box(3, 4, 5)},
		"a-- b":        {box(0, 3, 11), glue(3, 3), box(4, 5, 5)},
		"a-\tb":        {box(0, 2, 8), leap(2), box(3, 4, 5)},
		"a-\x1fb":      {box(0, 2, 8), soft(2, 3), box(3, 4, 5)},
		"a--b":         {box(0, 3, 11), behind(3), box(3, 4, 5)},
		"a---b":        {box(0, 4, 14), behind(4), box(4, 5, 5)},
		"a-b-c":        {box(0, 2, 8), behind(2), box(2, 4, 8), behind(4), box(4, 5, 5)},
		"a-b-":         {box(0, 2, 8), behind(2), box(2, 4, 8)},
		"-a-b":         {box(0, 3, 11), behind(3), box(3, 4, 5)},
		"a -b":         {box(0, 1, 5), glue(1, 3), box(2, 4, 8)},
		"a - b":        {box(0, 1, 5), glue(1, 3), box(2, 3, 3), glue(3, 3), box(4, 5, 5)},
		"a --b":        {box(0, 1, 5), glue(1, 3), box(2, 4, 6), behind(4), box(4, 5, 5)},
		"a\t-b":        {box(0, 1, 5), leap(1), box(2, 4, 8)},
		"a\x1f-b":      {box(0, 1, 5), soft(1, 3), box(2, 4, 8)},
		"a-\x1f-b":     {box(0, 2, 8), soft(2, 3), box(3, 5, 8)},
		"1-2":          {box(0, 2, 8), behind(2), box(2, 3, 5)},
		".-b":          {box(0, 2, 5), behind(2), box(2, 3, 5)},
		"a-.":          {box(0, 2, 8), behind(2), box(2, 3, 2)},
		"a-^b":         {box(0, 2, 8), behind(2), box(2, 4, 8)},
		"a^-b":         {box(0, 3, 8), behind(3), box(3, 4, 5)},
		"a^~^-b^":      {box(0, 5, 11), behind(5), box(5, 7, 5)},
		"\x01-b":       {box(0, 2, 3), behind(2), box(2, 3, 5)},
		"\x02-b":       {box(0, 2, 8), behind(2), box(2, 3, 5)},
		"a-\x01":       {box(0, 2, 8), behind(2), box(2, 3, 0)},
		"a-\x02":       {box(0, 2, 8), behind(2), box(2, 3, 5)},
		"a-\x01-b":     {box(0, 2, 8), behind(2), box(2, 4, 3), behind(4), box(4, 5, 5)},
		"-\x01-b":      {box(0, 3, 6), behind(3), box(3, 4, 5)},
		"a_b+c=d":      {box(0, 7, 5+3+5+6+5+6+5)},
		"well-known ":  {box(0, 5, 7+5+2+2+3), behind(5), box(5, 10, 5+5+5+7+5), glue(10, 3)},
		"a-b c-d\te-f": {box(0, 2, 8), behind(2), box(2, 3, 5), glue(3, 3), box(4, 6, 8), behind(6), box(6, 7, 5), leap(7), box(8, 10, 8), behind(10), box(10, 11, 3)},
	} {
		has(t, plain(text), must...)
	}
	has(t, looking(plain("a-b"), span(1, 8, 1, 0), span(1, 16, 2, 0), span(1, 32, 3, 0)), box(0, 2, 5+1+6+2), behind(2), box(2, 3, 20+3))
}

// TestSignsAndWords: P10.1, signs - next to words that may be parted, and within what would be one without them.
func TestSignsAndWords(t *testing.T) {
	for text, must := range map[string][]api.Item{
		"a-table":  {box(0, 2, 8), behind(2), box(2, 4, 8), within(4, 3), box(4, 7, 12)},
		"-table":   {box(0, 3, 11), within(3, 3), box(3, 6, 12)},
		"--table":  {box(0, 2, 6), behind(2), box(2, 4, 8), within(4, 3), box(4, 7, 12)},
		"table-":   {box(0, 2, 8), within(2, 3), box(2, 6, 15)},
		"table-a":  {box(0, 2, 8), within(2, 3), box(2, 6, 15), behind(6), box(6, 7, 5)},
		"table--a": {box(0, 2, 8), within(2, 3), box(2, 7, 18), behind(7), box(7, 8, 5)},
		"ta-ble":   {box(0, 3, 11), behind(3), box(3, 6, 12)},
		"la-tena":  {box(0, 3, 10), behind(3), box(3, 7, 18)},
		"ta--ble":  {box(0, 4, 14), behind(4), box(4, 7, 12)},
		"ta-\x1fble-table": {box(0, 3, 11), soft(3, 3), box(4, 8, 15), behind(8),
			box(8, 10, 8), within(10, 3), box(10, 13, 12)},
	} {
		has(t, hyphened(text), must...)
	}
}

// TestWords: P10.1, words that Plain parts, whose letters are great or have accents, and what ends them.
func TestWords(t *testing.T) {
	for text, must := range map[string][]api.Item{
		"TABLE":       {box(0, 2, 12), within(2, 3), box(2, 5, 18)},
		"ta^ble":      {box(0, 3, 8), within(3, 3), box(3, 6, 12)},
		"t^~a^~ble`":  {box(0, 6, 8), within(6, 3), box(6, 10, 12)},
		"latena":      {box(0, 2, 7), within(2, 3), box(2, 6, 18)},
		"hyphenation": {box(0, 2, 10), within(2, 3), box(2, 6, 20), within(6, 3), box(6, 7, 5), within(7, 3), box(7, 11, 15)},
		"table table": {box(0, 2, 8), within(2, 3), box(2, 5, 12), glue(5, 3), box(6, 8, 8), within(8, 3), box(8, 11, 12)},
		" table\t":    {glue(0, 3), box(1, 3, 8), within(3, 3), box(3, 6, 12), leap(6)},
		"\x1ftable":   {soft(0, 3), box(1, 3, 8), within(3, 3), box(3, 6, 12)},
		"1table2":     {box(0, 3, 13), within(3, 3), box(3, 7, 17)},
		"^table":      {box(0, 3, 11), within(3, 3), box(3, 6, 12)},
		"(table)":     {box(0, 3, 11), within(3, 3), box(3, 7, 15)},
		"\x01table":   {box(0, 3, 8), within(3, 3), box(3, 6, 12)},
		"\x02table":   {box(0, 3, 13), within(3, 3), box(3, 6, 12)},
		"table\x01":   {box(0, 2, 8), within(2, 3), box(2, 6, 12)},
		"table\x02":   {box(0, 2, 8), within(2, 3), box(2, 6, 17)},
		"ta\x1fble":   {box(0, 2, 8), soft(2, 3), box(3, 6, 12)},
		"la\x01tena":  {box(0, 7, 25)},
		"la1tena":     {box(0, 7, 30)},
		"la tena":     {box(0, 2, 7), glue(2, 3), box(3, 7, 18)},
		"ta^~^ble":    {box(0, 8, 23)},
		"a":           {box(0, 1, 5)},
		"ta":          {box(0, 2, 8)},
		"tabl":        {box(0, 4, 15)},
	} {
		has(t, hyphened(text), must...)
	}
}

// TestWithoutHyphen: P10.1, P.Hyphen of 0 parts no word, but at a Soft and behind a sign -.
func TestWithoutHyphen(t *testing.T) {
	has(t, plain("table"), box(0, 5, 20))
	has(t, plain("hyphenation"), box(0, 11, 50))
	has(t, plain("ta\x1fble-latena"), box(0, 2, 8), soft(2, 3), box(3, 7, 15), behind(7), box(7, 13, 25))
}

// TestLengthsOfWords: P10.1 and P11, words of 1 to 64 masses are parted, of 65 and more not, however many bytes they have.
func TestLengthsOfWords(t *testing.T) {
	for n := 1; n <= 140; n++ {
		for _, pair := range []string{"ta", "t^a", "t^~a`~"} {
			text := strings.Repeat(pair, (n+1)/2)
			if n%2 == 1 {
				text = text[:strings.LastIndexByte(text, 'a')]
			}
			must := 1
			for k := 2; k <= n-3 && n <= 64; k += 2 {
				must += 2
			}
			for _, text := range []string{text, "1" + text, text + "\x01"} {
				if l, e := item.Items(hyphened(text)); e != api.OK || len(l) != must {
					t.Errorf("%d masses of %q: %d items, %v, not %d", n, pair, len(l), e, must)
				}
			}
			if l, e := item.Items(plain(text)); e != api.OK || len(l) != 1 {
				t.Errorf("%d masses of %q without Hyphen: %d items, %v", n, pair, len(l), e)
			}
		}
	}
	// A word that is too long does not keep others from being parted.
	long := strings.Repeat("ta", 33)
	l, _ := item.Items(hyphened(long + " table " + long))
	if !slices.Equal(l, []api.Item{box(0, 66, 33*8), glue(66, 3), box(67, 69, 8), within(69, 3), box(69, 72, 12), glue(72, 3), box(73, 139, 33*8)}) {
		t.Error(l)
	}
}

// TestWordsOfSizes: P10.1, a change of size parts words, but not the Box; a change of track, of kerning or of nothing does not.
func TestWordsOfSizes(t *testing.T) {
	for _, l := range [][]api.Span{
		{span(2, 0, 0, 0), span(3, 8, 0, 0)},
		{span(2, 8, 0, 0), span(3, 0, 0, 0)},
		{span(1, 8, 0, 0), span(1, 8, 0, 0), span(3, 8, 0, 0)},
		{span(1, 0, 0, 1), span(2, 0, 0, 0), span(2, 8, 0, 1)},
	} {
		has(t, looking(hyphened("table"), l...), box(0, 2, 8), within(2, 3), box(2, 5, 12))
	}
	has(t, looking(hyphened("table"), span(1, 0, 1, 0), span(2, 0, 2, 0), span(2, 8, 3, 1)), box(0, 2, 8+1+2), within(2, 3), box(2, 5, 12+2+3+3))
	for at := 1; at < 5; at++ {
		l, e := item.Items(looking(hyphened("table"), span(at, 8, 0, 0), span(5-at, 16, 0, 0)))
		if e != api.OK || len(l) != 1 || l[0].From != 0 || l[0].To != 5 {
			t.Errorf("another size from %d on: %v, %v", at, l, e)
		}
	}
	has(t, looking(hyphened("table"), span(2, 8, 0, 0), span(3, 9, 0, 0)), box(0, 5, 8+5+2+5))
	has(t, looking(hyphened("xxtable"), span(2, 16, 0, 0), span(5, 8, 0, 0)), box(0, 4, 28), within(4, 3), box(4, 7, 12))
	has(t, looking(hyphened("xxtable"), span(2, 8, 0, 0), span(5, 16, 0, 0)), box(0, 4, 26), within(4, 6), box(4, 7, 24))
	has(t, looking(hyphened("tablexx"), span(5, 16, 0, 0), span(2, 8, 0, 0)), box(0, 2, 16), within(2, 6), box(2, 7, 34))
	has(t, looking(hyphened("tabletable"), span(5, 8, 0, 0), span(5, 16, 0, 0)),
		box(0, 2, 8), within(2, 3), box(2, 7, 28), within(7, 6), box(7, 10, 24))
	// An accent's own look is none of its letter's.
	has(t, looking(hyphened("ta^ble"), span(2, 8, 0, 0), span(1, 16, 0, 0), span(3, 8, 0, 0)), box(0, 3, 8), within(3, 3), box(3, 6, 12))
	// 65 letters are too many for one word, but not for two.
	for _, first := range []int{1, 64} {
		l, _ := item.Items(looking(hyphened(strings.Repeat("ta", 32)+"t"), span(first, 8, 0, 0), span(65-first, 16, 0, 0)))
		if len(l) < 50 {
			t.Errorf("%d letters of one size, %d of another: %d items", first, 65-first, len(l))
		}
	}
}

// TestKerning: P10.1, a Box is as wide as its run by nature: kerned within, not where it is parted from another one.
func TestKerning(t *testing.T) {
	kerned := func(text string, hyphen, drop int) api.Para {
		p := looking(plain(text), span(len(text), 16, 0, 1))
		p.P.Hyphen, p.P.Drop = hyphen, drop
		return p
	}
	has(t, kerned("AV", 0, 0), box(0, 2, 22))
	has(t, kerned("AVA", 0, 0), box(0, 3, 32))
	has(t, looking(plain("AV"), span(2, 16, 0, 0)), box(0, 2, 24))
	has(t, kerned("A V", 0, 0), box(0, 1, 12), glue(1, 6), box(2, 3, 12))
	has(t, kerned("A\x1fV", 0, 0), box(0, 1, 12), soft(1, 6), box(2, 3, 12))
	has(t, kerned("aLTab", 0, 0), box(0, 5, 22+32-2-2))
	has(t, kerned("aLTab", 1, 0), box(0, 2, 22), within(2, 6), box(2, 5, 30))
	has(t, kerned("AV-AV", 0, 0), box(0, 3, 28), behind(3), box(3, 5, 22))
	has(t, kerned("AVA", 0, 2), box(1, 3, 22))
	has(t, kerned("TaTa", 0, 4), box(1, 4, 10+12+10-2))
}

// TestMarks: P10.1, references are as wide as their marks, in order.
func TestMarks(t *testing.T) {
	p := plain("a\x02 \x02\x02b")
	p.Marks = []string{"i", "12", "WWWWWWWW"}
	has(t, p, box(0, 2, 7), glue(2, 3), box(3, 6, 10+64+5))
}

// TestDrop: P10.1, P.Drop of 0 to 4, with a letter first, with and without accents, and without one.
func TestDrop(t *testing.T) {
	for lines := range 5 {
		for text, must := range map[string][2][]api.Item{
			"ab":     {{box(0, 2, 10)}, {box(1, 2, 5)}},
			"a":      {{box(0, 1, 5)}, nil},
			"a^~":    {{box(0, 3, 5)}, nil},
			"a^~^":   {{box(0, 4, 8)}, {box(3, 4, 3)}},
			"a^b":    {{box(0, 3, 10)}, {box(2, 3, 5)}},
			"a b":    {{box(0, 1, 5), glue(1, 3), box(2, 3, 5)}, {glue(1, 3), box(2, 3, 5)}},
			"a\tb":   {{box(0, 1, 5), leap(1), box(2, 3, 5)}, {leap(1), box(2, 3, 5)}},
			"a\x1fb": {{box(0, 1, 5), soft(1, 3), box(2, 3, 5)}, {soft(1, 3), box(2, 3, 5)}},
			"a\x01b": {{box(0, 3, 10)}, {box(1, 3, 5)}},
			"a-b":    {{box(0, 2, 8), behind(2), box(2, 3, 5)}, {box(1, 3, 8)}},
			"a--b":   {{box(0, 3, 11), behind(3), box(3, 4, 5)}, {box(1, 3, 6), behind(3), box(3, 4, 5)}},
			"ab-c":   {{box(0, 3, 13), behind(3), box(3, 4, 5)}, {box(1, 3, 8), behind(3), box(3, 4, 5)}},
		} {
			has(t, dropped(text, lines), must[min(lines/2, 1)]...)
		}
		for text, must := range map[string][]api.Item{
			"":       nil,
			"1b":     {box(0, 2, 10)},
			"^b":     {box(0, 2, 8)},
			"-b":     {box(0, 2, 8)},
			" b":     {glue(0, 3), box(1, 2, 5)},
			"\tb":    {leap(0), box(1, 2, 5)},
			"\x1fb":  {soft(0, 3), box(1, 2, 5)},
			"\x01b":  {box(0, 2, 5)},
			"\x02b":  {box(0, 2, 10)},
			"\"b\"a": {box(0, 4, 16)},
		} {
			has(t, dropped(text, lines), must...)
		}
	}
}

// TestDropAndWords: P10.1, words are of the body's masses: a drop capital is none of their letters.
func TestDropAndWords(t *testing.T) {
	both := func(text string) api.Para {
		p := hyphened(text)
		p.P.Drop = 3
		return p
	}
	has(t, both("xtable"), box(1, 3, 8), within(3, 3), box(3, 6, 12))
	has(t, both("x^table"), box(2, 4, 8), within(4, 3), box(4, 7, 12))
	has(t, both("table"), box(1, 5, 17))
	has(t, both("a table"), glue(1, 3), box(2, 4, 8), within(4, 3), box(4, 7, 12))
	has(t, both("1table"), box(0, 3, 13), within(3, 3), box(3, 6, 12))
	for n, must := range map[int]int{64: 61, 65: 1} {
		if l, e := item.Items(both("x" + strings.Repeat("ta", 40)[:n])); e != api.OK || len(l) != must {
			t.Errorf("%d letters behind a capital: %d items, %v, not %d", n, len(l), e, must)
		}
	}
}

// TestOtherPropertiesMakeNoItems: P10.1, items hang on no property but Size, Hyphen and Drop, and on no label.
func TestOtherPropertiesMakeNoItems(t *testing.T) {
	p := hyphened("table a")
	must := []api.Item{box(0, 2, 8), within(2, 3), box(2, 5, 12), glue(5, 3), box(6, 7, 5)}
	p.P = api.Props{Size: 8, Pitch: 255, Align: 3, First: 255, In: 255, Out: 255, Before: 255, After: 255, Next: 1, Whole: 1, Orphan: 4, Widow: 4, Hyphen: 1, Least: 1, List: 8, Level: 3}
	p.Label = "12."
	has(t, p, must...)
	p.P.Drop = 1
	has(t, p, must...)
}

// TestLongTexts: P10.1 and P11, texts of 4,096 bytes of each kind, and of 4,097.
func TestLongTexts(t *testing.T) {
	for text, must := range map[string]int{"a": 1, "a^~1": 1, " ": 4096, "\t": 4096, "\x1f": 4096, "-": 1, "a-": 4095, "a ": 4096, "a\x1f": 4096, "a- b": 2049, "\x01": 1, "\x02": 1} {
		text := strings.Repeat(text, 4096/len(text))
		for _, hyphen := range []int{0, 1} {
			p := plain(text)
			p.P.Hyphen = hyphen
			l, e := item.Items(p)
			if e != api.OK || len(l) != must {
				t.Errorf("%q: %d items, %v, not %d", short(text), len(l), e, must)
			}
			if e := item.Check(l); e != api.OK {
				t.Errorf("check of %q's items: %v", short(text), e)
			}
			p = plain(text + text[:1])
			p.P.Hyphen = hyphen
			refused(t, p, api.ErrLong)
		}
	}
	has(t, looking(plain(strings.Repeat("W", 4096)), span(4096, 64, 15, 0)), box(0, 4096, 4096*79))
	// So many marks are wider than an item may be that is handed in; that does not keep Items from telling it.
	p := looking(plain(strings.Repeat("\x02", 4096)), span(4096, 64, 0, 0))
	p.Marks = slices.Repeat([]string{"WWWWWWWW"}, 4096)
	has(t, p, box(0, 4096, 4096*512))
}

// TestParagraphsThatMayNotBe: P10.1 and rule 1, a paragraph's error, and two and three that apply at once.
func TestParagraphsThatMayNotBe(t *testing.T) {
	faults := []func(p *api.Para){
		func(p *api.Para) {},
		func(p *api.Para) { p.Spans = nil },
		func(p *api.Para) { p.Spans = append(p.Spans, api.Span{Len: 1}) },
		func(p *api.Para) { p.Spans[0].C.Size = 65 },
		func(p *api.Para) { p.Spans[0].C.Track = -1 },
		func(p *api.Para) { p.Spans[0].C.Kern = 2 },
		func(p *api.Para) { p.P = api.Props{} },
		func(p *api.Para) { p.P.Hyphen = 2 },
		func(p *api.Para) { p.P.Hyphen = -1 },
		func(p *api.Para) { p.P.Drop = 5 },
		func(p *api.Para) { p.P.Drop = -1 },
		func(p *api.Para) { p.Label = "\n" },
		func(p *api.Para) { p.Marks = []string{"1"} },
	}
	for i, fault := range faults {
		for text, why := range map[string]api.Errno{
			"ab":                              api.ErrArg,
			"a\x03":                           api.ErrBytes,
			"a\nb":                            api.ErrBytes,
			"\x04":                            api.ErrBytes,
			"\x7f":                            api.ErrBytes,
			strings.Repeat("a", 4097):         api.ErrLong,
			strings.Repeat("\n", 4097):        api.ErrLong,
			"\x03" + strings.Repeat(" ", 1e5): api.ErrLong,
		} {
			p := plain(text)
			fault(&p)
			if i > 0 || why != api.ErrArg {
				refused(t, p, why)
			}
		}
	}
	refused(t, api.Para{}, api.ErrArg)
	for b := range 256 {
		p := plain("a" + string([]byte{byte(b)}) + "b")
		if e := metric.Check(p); e != api.OK {
			refused(t, p, api.ErrBytes)
		} else if _, e := item.Items(p); e != api.OK {
			t.Errorf("%q: %v", p.Text, e)
		}
	}
}

// field is a number of an item, by its name, and the most it may be of each kind.
type field struct {
	name string
	of   func(it *api.Item) *int
	most map[int]int
}

// fields tells an item's numbers that have bounds on both sides.
func fields() []field {
	return []field{
		{"W", func(it *api.Item) *int { return &it.W }, map[int]int{api.Box: 524288, api.Glue: 524288, api.Penalty: 524288}},
		{"Stretch", func(it *api.Item) *int { return &it.Stretch }, map[int]int{api.Glue: 4095}},
		{"Shrink", func(it *api.Item) *int { return &it.Shrink }, map[int]int{api.Glue: 4095}},
		{"Cost", func(it *api.Item) *int { return &it.Cost }, map[int]int{api.Penalty: 4095}},
	}
}

// TestFields: P10.1, W, Stretch, Shrink and Cost of each kind at both ends, one beyond and far out; what only another kind has.
func TestFields(t *testing.T) {
	for _, f := range fields() {
		for kind := api.Box; kind <= api.Leap; kind++ {
			most := f.most[kind]
			for _, n := range []int{0, most / 2, max(most-1, 0), most} {
				it := api.Item{Kind: kind}
				*f.of(&it) = n
				checked(t, api.OK, it)
			}
			for _, n := range slices.Concat(far, []int{-1, most + 1, most + 2, 1 << 19 << 1}) {
				it := api.Item{Kind: kind}
				*f.of(&it) = n
				checked(t, api.ErrArg, it)
			}
		}
	}
	checked(t, api.ErrArg, api.Item{Kind: api.Leap, W: 1})
	for _, kind := range []int{api.Box, api.Leap} {
		checked(t, api.ErrArg, api.Item{Kind: kind, Stretch: 1})
		checked(t, api.ErrArg, api.Item{Kind: kind, Shrink: 1})
		checked(t, api.ErrArg, api.Item{Kind: kind, Cost: 1})
	}
}

// TestHyphenOfKinds: P10.1, Hyphen of each kind.
func TestHyphenOfKinds(t *testing.T) {
	for kind := api.Box; kind <= api.Leap; kind++ {
		checked(t, api.OK, api.Item{Kind: kind})
		if kind == api.Penalty {
			checked(t, api.OK, api.Item{Kind: kind, Hyphen: true})
		} else {
			checked(t, api.ErrArg, api.Item{Kind: kind, Hyphen: true})
		}
	}
	checked(t, api.OK, api.Item{Kind: api.Penalty, From: 3, To: 4, W: 524288, Cost: 4095, Hyphen: true})
	checked(t, api.OK, api.Item{Kind: api.Glue, From: 3, To: 4, W: 524288, Stretch: 4095, Shrink: 4095})
}

// TestItemsKinds: P10.1, each kind, those next to them, and far ones.
func TestItemsKinds(t *testing.T) {
	for _, kind := range slices.Concat(far, []int{-4, -3, -1, 0, 5, 6, 8, 255, 256, 257}) {
		checked(t, api.ErrArg, api.Item{Kind: kind})
		checked(t, api.ErrArg, box(0, 1, 1), api.Item{Kind: kind}, box(1, 2, 1))
	}
}

// TestPlacesOfItems: P10.1, From at 0 and below, To at From and below; they need not meet.
func TestPlacesOfItems(t *testing.T) {
	for kind := api.Box; kind <= api.Leap; kind++ {
		for _, x := range [][2]int{{0, 0}, {0, 1}, {1, 1}, {7, 7}, {7, 8}, {5000, 6000}, {0, math.MaxInt}, {math.MaxInt, math.MaxInt}, {math.MaxInt - 1, math.MaxInt}} {
			checked(t, api.OK, api.Item{Kind: kind, From: x[0], To: x[1]})
		}
		for _, x := range [][2]int{{-1, -1}, {-1, 0}, {-1, 5}, {0, -1}, {1, 0}, {8, 7}, {7, 0}, {math.MinInt, 0}, {math.MinInt, math.MaxInt}, {math.MaxInt, math.MinInt}, {0, math.MinInt}, {math.MaxInt, 0}, {math.MaxInt, math.MaxInt - 1}} {
			checked(t, api.ErrArg, api.Item{Kind: kind, From: x[0], To: x[1]})
		}
	}
	checked(t, api.OK, box(9, 12, 1), box(3, 4, 1), box(3, 4, 1), glue(0, 3))
}

// TestFaultsAnywhere: P10.1, one item that may not be, at each place of a list.
func TestFaultsAnywhere(t *testing.T) {
	for n := 1; n <= 5; n++ {
		for i := range n {
			l := []api.Item{box(0, 1, 5), glue(1, 3), soft(2, 3), leap(3), box(4, 5, 5)}[:n]
			checked(t, api.OK, l...)
			l[i].W = -1
			checked(t, api.ErrArg, l...)
		}
	}
	l := slices.Repeat([]api.Item{box(0, 1, 5)}, 8192)
	l[8191].Cost = 1
	checked(t, api.ErrArg, l...)
}

// TestHowMany: P10.1 and P11, no items, 8,191, 8,192, 8,193 and more; that there are too many is told ahead of what else is wrong.
func TestHowMany(t *testing.T) {
	checked(t, api.OK)
	checked(t, api.OK, []api.Item{}...)
	l := slices.Repeat([]api.Item{box(0, 1, 5)}, 1<<16+1)
	for _, n := range []int{1, 4096, 4097, 8191, 8192} {
		checked(t, api.OK, l[:n]...)
	}
	for _, n := range []int{8193, 8194, 1 << 16, 1<<16 + 1} {
		checked(t, api.ErrLong, l[:n]...)
	}
	l[0].Kind = 0
	checked(t, api.ErrArg, l[:8192]...)
	checked(t, api.ErrLong, l[:8193]...)
	l[0].Kind, l[8192].From = api.Box, -1
	checked(t, api.OK, l[:8192]...)
	checked(t, api.ErrLong, l[:8193]...)
}

// TestLegal: P10.2, each kind behind each kind, first and last; the end; places out of their bounds.
func TestLegal(t *testing.T) {
	made := map[byte]api.Item{'b': box(0, 1, 5), 'g': glue(0, 3), 'p': behind(0), 'h': soft(0, 3), 'l': leap(0)}
	for text, must := range map[string]string{
		"":       "+",
		"b":      "-+",
		"g":      "-+",
		"p":      "++",
		"h":      "++",
		"l":      "-+",
		"bb":     "--+",
		"bg":     "-++",
		"bp":     "-++",
		"bh":     "-++",
		"bl":     "--+",
		"gb":     "--+",
		"gg":     "--+",
		"gp":     "-++",
		"gl":     "--+",
		"pb":     "+-+",
		"pg":     "+++",
		"hg":     "+++",
		"pp":     "+++",
		"pl":     "+-+",
		"lb":     "--+",
		"lg":     "-++",
		"lp":     "-++",
		"ll":     "--+",
		"bggb":   "-+--+",
		"bgggpg": "-+--+++",
		"ggbg":   "---++",
		"lggl":   "-+--+",
		"bgpgb":  "-+++-+",
		"blglg":  "--+-++",
	} {
		var l []api.Item
		for i := range len(text) {
			l = append(l, made[text[i]])
		}
		for i := range len(must) {
			if ok := item.Legal(l, i); ok != (must[i] == '+') {
				t.Errorf("legal of %s, %d: %v", text, i, ok)
			}
		}
		for _, i := range slices.Concat(far, []int{-2, -1, len(l) + 1, len(l) + 2}) {
			if item.Legal(l, i) {
				t.Errorf("legal of %s, %d", text, i)
			}
			if n, e := item.Start(l, i); n != 0 || e != api.ErrRange {
				t.Errorf("start of %s, %d: %d, %v", text, i, n, e)
			}
		}
	}
}

// TestLegalOfListsThatMayNotBe: P10.2, no place of theirs is legal, wherever their fault is.
func TestLegalOfListsThatMayNotBe(t *testing.T) {
	for k := range 3 {
		l := []api.Item{box(0, 1, 5), glue(1, 3), behind(2)}
		l[k].From = -1
		for i := -1; i <= 4; i++ {
			if item.Legal(l, i) {
				t.Errorf("legal of %v, %d", l, i)
			}
			if n, e := item.Start(l, i); n != 0 || e != api.ErrArg {
				t.Errorf("start of %v, %d: %d, %v", l, i, n, e)
			}
		}
	}
	for _, i := range []int{-1, 0, 1, 8192, 8193, 8194, math.MaxInt} {
		if item.Legal(slices.Repeat([]api.Item{behind(0)}, 8193), i) {
			t.Errorf("legal of 8193 items, %d", i)
		}
	}
}

// TestStart: P10.2, behind each kind of break, behind one that is no legal one, and behind the end.
func TestStart(t *testing.T) {
	l := []api.Item{box(0, 1, 5), glue(1, 3), glue(2, 3), box(3, 4, 5), behind(4), box(4, 5, 5), soft(5, 3), glue(6, 3), leap(7), glue(8, 3), soft(9, 3), behind(10), glue(10, 3), glue(11, 3)}
	for i, must := range []int{0, 3, 3, 3, 5, 5, 8, 8, 8, 10, 11, 14, 14, 14, 14} {
		starts(t, l, i, must)
	}
	starts(t, nil, 0, 0)
	starts(t, []api.Item{glue(0, 3)}, 0, 1)
	starts(t, []api.Item{glue(0, 3), glue(1, 3)}, 0, 2)
	starts(t, []api.Item{behind(0)}, 0, 1)
	starts(t, []api.Item{behind(0), behind(0)}, 0, 1)
	starts(t, []api.Item{glue(0, 3), behind(1)}, 0, 1) // of a Penalty from behind it on, but just if it is at the break
	starts(t, []api.Item{glue(0, 3), behind(1), glue(1, 3), box(2, 3, 5)}, 0, 1)
	starts(t, []api.Item{behind(0), glue(0, 3), behind(1), box(1, 2, 5)}, 0, 2)
	long := slices.Repeat([]api.Item{glue(0, 3)}, 8192)
	starts(t, long, 0, 8192)
	starts(t, long, 8192, 8192)
}

// TestWidth: P10.3, Boxes, Glues within and at the end, Penalties within and at the break, of parts of a line.
func TestWidth(t *testing.T) {
	l := []api.Item{box(0, 1, 100), glue(1, 3), glue(2, 9), box(3, 4, 1000), soft(4, 7), box(5, 6, 5000), behind(6), glue(6, 20)}
	for _, x := range [][3]int{
		{0, 0, 0}, {0, 1, 100}, {0, 2, 100}, {0, 3, 100}, {0, 4, 1119}, {0, 5, 1112}, {0, 6, 6112}, {0, 7, 6112}, {0, 8, 6112},
		{1, 1, 0}, {1, 2, 0}, {1, 3, 0}, {1, 4, 1019}, {2, 4, 1016}, {2, 5, 1009}, {3, 4, 1007}, {3, 5, 1000},
		{4, 4, 7}, {4, 5, 0}, {4, 6, 5000}, {5, 6, 5000}, {5, 8, 5000}, {6, 6, 0}, {6, 8, 0}, {7, 8, 0}, {8, 8, 0},
	} {
		for _, from := range []int{0, 1, 47, 48, 4095} {
			wide(t, l, x[0], x[1], from, x[2])
		}
	}
	wide(t, nil, 0, 0, 0, 0)
	wide(t, nil, 0, 0, 4095, 0)
	// A Glue ahead of a Penalty that stands in the line is not at its end; one ahead of the Penalty at the break is.
	l = []api.Item{box(0, 1, 100), glue(1, 3), soft(2, 7), glue(3, 9), behind(4)}
	wide(t, l, 0, 2, 0, 107)
	wide(t, l, 0, 3, 0, 103)
	wide(t, l, 0, 4, 0, 103)
	wide(t, l, 0, 5, 0, 112)
}

// TestWidthOfLeaps: P10.3, Leaps from several places, first, last, one behind the other, ahead of Glues, with a Penalty at the break.
func TestWidthOfLeaps(t *testing.T) {
	l := []api.Item{leap(0)}
	for x := 0; x <= 4095; x++ {
		must := 1
		for ; (x+must)%48 != 0; must++ {
		}
		wide(t, l, 0, 1, x, must)
	}
	l = []api.Item{box(0, 1, 5), leap(1), glue(2, 3), leap(3), leap(4), box(5, 6, 5), soft(6, 7), glue(7, 3)}
	wide(t, l, 0, 1, 0, 5)
	wide(t, l, 0, 2, 0, 48)
	wide(t, l, 0, 3, 0, 48)
	wide(t, l, 0, 4, 0, 96)
	wide(t, l, 0, 5, 0, 144)
	wide(t, l, 0, 6, 0, 149+7)
	wide(t, l, 0, 7, 0, 149)
	wide(t, l, 0, 8, 0, 149)
	wide(t, l, 0, 6, 42, 144-42+5+7)
	wide(t, l, 0, 6, 43, 192-43+5+7)
	wide(t, l, 0, 2, 42, 6)
	wide(t, l, 0, 2, 43, 48+5)
	wide(t, l, 0, 2, 44, 48+4)
	wide(t, l, 1, 2, 47, 1)
	wide(t, l, 1, 2, 48, 48)
	wide(t, l, 2, 4, 45, 3+48)
	wide(t, l, 2, 4, 44, 4)
	wide(t, l, 5, 7, 47, 5)
	// Penalties within a line move nothing.
	l = []api.Item{box(0, 1, 5), soft(1, 40), leap(2), box(3, 4, 5)}
	wide(t, l, 0, 4, 0, 53)
	// Stops go on wherever a line has come to.
	l = []api.Item{box(0, 1, 524288), leap(1), box(2, 3, 5), leap(3)}
	wide(t, l, 0, 2, 0, 524304)
	wide(t, l, 0, 3, 0, 524309)
	wide(t, l, 0, 4, 0, 524352)
	wide(t, l, 0, 4, 4095, 528432-4095)
	l = []api.Item{box(0, 1, 8190), leap(1), leap(2)}
	wide(t, l, 0, 2, 0, 8208)
	wide(t, l, 0, 3, 0, 8256)
	wide(t, l, 0, 2, 1, 8207)
}

// TestWidestLines: P10.3, as many items as there may be, as wide as they may be.
func TestWidestLines(t *testing.T) {
	wide(t, slices.Repeat([]api.Item{box(0, 1, 524288)}, 8192), 0, 8192, 4095, 8192*524288)
	wide(t, slices.Repeat([]api.Item{leap(0)}, 8192), 0, 8192, 0, 8192*48)
	wide(t, slices.Repeat([]api.Item{leap(0)}, 8192), 0, 8192, 4095, 8192*48-15)
	l := slices.Repeat([]api.Item{{Kind: api.Glue, W: 524288, Stretch: 4095, Shrink: 4095}}, 8192)
	wide(t, l, 0, 8192, 0, 0)
	gives(t, l, 0, 8192, 0, 0)
	l[8191] = box(0, 1, 0)
	wide(t, l, 0, 8192, 0, 8191*524288)
	gives(t, l, 0, 8192, 8191*4095, 8191*4095)
}

// TestGive: P10.3, the stretch and the shrink of Glues within, without those at the end.
func TestGive(t *testing.T) {
	of := func(stretch, shrink int) api.Item {
		return api.Item{Kind: api.Glue, W: 9, Stretch: stretch, Shrink: shrink}
	}
	l := []api.Item{of(1, 2), box(0, 1, 5), of(10, 20), of(100, 200), soft(2, 3), leap(3), of(1000, 2000), box(4, 5, 5), of(4000, 3000)}
	for _, x := range [][4]int{
		{0, 0, 0, 0}, {0, 1, 0, 0}, {0, 2, 1, 2}, {0, 3, 1, 2}, {0, 4, 1, 2}, {0, 5, 111, 222}, {0, 6, 111, 222}, {0, 7, 111, 222}, {0, 8, 1111, 2222}, {0, 9, 1111, 2222},
		{1, 2, 0, 0}, {1, 4, 0, 0}, {1, 5, 110, 220}, {2, 4, 0, 0}, {2, 5, 110, 220}, {3, 5, 100, 200}, {4, 5, 0, 0}, {6, 7, 0, 0}, {6, 8, 1000, 2000}, {8, 9, 0, 0}, {9, 9, 0, 0},
	} {
		gives(t, l, x[0], x[1], x[2], x[3])
	}
	gives(t, nil, 0, 0, 0, 0)
	p, _ := item.Items(plain("a b c"))
	gives(t, p, 0, 5, 2, 2)
	gives(t, p, 0, 4, 1, 1)
	gives(t, p, 0, 3, 1, 1)
	gives(t, p, 0, 2, 0, 0)
	gives(t, p, 1, 5, 2, 2)
}

// TestRanges: P10.3 and P11, a, b and x at both ends, one beyond and far out.
func TestRanges(t *testing.T) {
	l := []api.Item{box(0, 1, 5), glue(1, 3), box(2, 3, 5)}
	for a := -2; a <= 5; a++ {
		for b := -2; b <= 5; b++ {
			if a < 0 || a > b || b > 3 {
				untold(t, l, a, b, 0, api.ErrRange)
			} else if n, e := item.Width(l, a, b, 0); n != width(l, a, b, 0) || e != api.OK {
				t.Errorf("width of %d, %d: %d, %v", a, b, n, e)
			}
			if a != 0 || b != 0 {
				untold(t, nil, a, b, 0, api.ErrRange)
			}
		}
	}
	for _, n := range far {
		for _, at := range slices.Concat(far, []int{-1, 0, 1, 3, 4}) {
			untold(t, l, n, at, 0, api.ErrRange)
			untold(t, l, at, n, 0, api.ErrRange)
		}
	}
	for _, x := range []int{0, 1, 4094, 4095} {
		wide(t, l, 0, 3, x, 13)
	}
	for _, x := range slices.Concat(far, []int{-2, -1, 4096, 4097, 8190}) {
		for _, b := range []int{0, 1, 3} {
			if n, e := item.Width(l, 0, b, x); n != 0 || e != api.ErrRange {
				t.Errorf("width of %d at %d: %d, %v", b, x, n, e)
			}
		}
		if n, e := item.Width(nil, 0, 0, x); n != 0 || e != api.ErrRange {
			t.Errorf("width of nothing at %d: %d, %v", x, n, e)
		}
	}
	spare := []api.Item{box(0, 1, 5), soft(1, 3), box(2, 3, 5)}
	wide(t, spare[:1], 0, 1, 0, 5)
	untold(t, spare[:1], 0, 2, 0, api.ErrRange)
}

// TestOrderOfErrors: rule 1, ErrLong ahead of ErrArg ahead of ErrRange.
func TestOrderOfErrors(t *testing.T) {
	long := slices.Repeat([]api.Item{box(0, 1, 5)}, 8193)
	odd := slices.Clone(long)
	odd[8192].W = -1
	for _, x := range [][2]int{{0, 1}, {-1, 1}, {2, 1}, {0, 8194}, {0, 8193}, {math.MinInt, math.MaxInt}, {math.MaxInt, math.MinInt}} {
		for _, place := range []int{0, -1, 4096} {
			untold(t, long, x[0], x[1], place, api.ErrLong)
			untold(t, odd, x[0], x[1], place, api.ErrLong)
			untold(t, odd[1:], x[0], x[1], place, api.ErrArg)
			untold(t, []api.Item{{}}, x[0], x[1], place, api.ErrArg)
		}
	}
	for _, i := range []int{-1, 0, 1, 8192, 8193, 8194, math.MinInt, math.MaxInt} {
		for l, why := range map[*[]api.Item]api.Errno{&long: api.ErrLong, &odd: api.ErrLong, {{}}: api.ErrArg} {
			if n, e := item.Start(*l, i); n != 0 || e != why {
				t.Errorf("start at %d: %d, %v, not %v", i, n, e, why)
			}
		}
	}
}

// TestLeaps: P10.2, whether one is a Leap, wherever it stands; of lists that may not be too.
func TestLeaps(t *testing.T) {
	for text, must := range map[string]bool{"": false, "a": false, " ": false, "\x1f": false, "a-b c": false, "\t": true, "a\tb": true, "\tab": true, "ab\t": true, "\t\t": true} {
		l, _ := item.Items(plain(text))
		if ok := item.Leaps(l); ok != must {
			t.Errorf("leaps of %q: %v", text, ok)
		}
	}
	for kind := -1; kind <= 6; kind++ {
		if ok := item.Leaps([]api.Item{{Kind: kind}}); ok != (kind == api.Leap) {
			t.Errorf("leaps of kind %d: %v", kind, ok)
		}
	}
	l := slices.Repeat([]api.Item{box(0, 1, 5)}, 8193)
	if item.Leaps(l) {
		t.Error("leaps of 8193 boxes")
	}
	l[8192] = api.Item{Kind: api.Leap, W: -1}
	if !item.Leaps(l) || item.Leaps(l[:8192]) {
		t.Error("leaps of 8192 boxes and a leap")
	}
}

// TestWhereLinesStand: P10.4, without Leaps the width does not hang on where a line stands.
func TestWhereLinesStand(t *testing.T) {
	next := chance(4)
	for range 500 {
		l := slices.DeleteFunc(some(next, next(16)), func(it api.Item) bool { return it.Kind == api.Leap })
		a := next(len(l) + 1)
		b := a + next(len(l)-a+1)
		must, e := item.Width(l, a, b, 0)
		if e != api.OK {
			t.Fatal(e)
		}
		for range 6 {
			wide(t, l, a, b, next(4096), must)
		}
		wide(t, l, a, b, 4095, must)
	}
}

// TestPartsThatMeet: P10.4, two parts that meet within are as wide as both, less what a Penalty where they meet has.
func TestPartsThatMeet(t *testing.T) {
	next := chance(44)
	met := 0
	for range 800 {
		l := slices.DeleteFunc(some(next, next(16)), func(it api.Item) bool { return it.Kind == api.Leap })
		for m := range len(l) {
			if m > 0 && l[m-1].Kind == api.Glue {
				continue // Glues at a part's end do not stand in it
			}
			less := 0
			if l[m].Kind == api.Penalty {
				less = l[m].W
			}
			for a := range m + 1 {
				for b := m; b <= len(l); b++ {
					first, _ := item.Width(l, a, m, 0)
					second, _ := item.Width(l, m, b, 0)
					wide(t, l, a, b, 0, first+second-less)
					met++
				}
			}
		}
	}
	if met < 10000 {
		t.Error("too few parts: ", met)
	}
}

// TestAnswersAreNewMemory: rule 4, items that are written over, their spare room too, change neither other answers nor later ones.
func TestAnswersAreNewMemory(t *testing.T) {
	p := hyphened("table a-b \tc")
	must := model(p)
	a, _ := item.Items(p)
	b, _ := item.Items(p)
	for i := range a[:cap(a)] {
		a[:cap(a)][i] = api.Item{Kind: -1, From: -1, W: -2, Cost: 3}
	}
	if !slices.Equal(b, must) {
		t.Errorf("items have become %v", b)
	}
	has(t, p, must...)
}

// TestListsStayAsTheyWere: rule 4, what is handed in is not changed, its spare room neither read nor written, and nothing is looked at later.
func TestListsStayAsTheyWere(t *testing.T) {
	spans := []api.Span{span(1, 8, 1, 1), span(5, 0, 0, 1), span(9, 99, 99, 9)}
	marks := []string{"12", "3", "", "far too long a mark"}
	p := hyphened("\x02ta b\x02")
	p.Spans, p.Marks = spans[:2], marks[:2]
	keptSpans, keptMarks := slices.Clone(spans), slices.Clone(marks)
	l, e := item.Items(p)
	if e != api.OK || len(l) != 3 {
		t.Fatal(l, e)
	}
	if !slices.Equal(spans, keptSpans) || !slices.Equal(marks, keptMarks) {
		t.Errorf("%v and %q have become %v and %q", keptSpans, keptMarks, spans, marks)
	}
	before := slices.Clone(l)
	clear(spans)
	clear(marks)
	if !slices.Equal(l, before) {
		t.Errorf("items have become %v", l)
	}
	all := append(slices.Clone(l), soft(6, 3), api.Item{Kind: 99})
	kept := slices.Clone(all)
	part := all[:3]
	if !item.Legal(part, 3) || item.Check(part) != api.OK || item.Leaps(part) {
		t.Error("the spare room is looked at")
	}
	starts(t, part, 3, 3)
	wide(t, part, 0, 3, 0, width(kept[:3], 0, 3, 0))
	gives(t, part, 0, 3, 1, 1)
	if !slices.Equal(all, kept) {
		t.Errorf("%v have become %v", kept, all)
	}
}

// TestNothingIsKept: P1, what a call answers hangs on its arguments alone, not on the calls ahead of it, refused ones among them.
func TestNothingIsKept(t *testing.T) {
	for range 3 {
		has(t, hyphened("table"), box(0, 2, 8), within(2, 3), box(2, 5, 12))
		has(t, plain("table"), box(0, 5, 20))
		refused(t, plain("table\n"), api.ErrBytes)
		has(t, dropped("ab", 2), box(1, 2, 5))
		has(t, plain("ab"), box(0, 2, 10))
		wide(t, []api.Item{box(0, 1, 5), leap(1)}, 0, 2, 40, 8)
		untold(t, []api.Item{{}}, 0, 1, 0, api.ErrArg)
		wide(t, []api.Item{box(0, 1, 5), leap(1)}, 0, 2, 0, 48)
	}
	// A list that is changed between two calls is told as it is then.
	l := []api.Item{box(0, 1, 5), glue(1, 3), box(2, 3, 5)}
	wide(t, l, 0, 3, 0, 13)
	l[0].W = 6
	wide(t, l, 0, 3, 0, 14)
	l[0].W = -1
	untold(t, l, 0, 3, 0, api.ErrArg)
}

// TestSideBySide: P1 and rule 8, calls in goroutines of their own do not see one another.
func TestSideBySide(t *testing.T) {
	var all sync.WaitGroup
	for seed := range 8 {
		all.Go(func() {
			next := chance(uint32(seed))
			for range 100 {
				compareLines(t, compare(t, paragraph(next, next(12))), 0, next(4096))
			}
		})
	}
	all.Wait()
}
