package style_test

import (
	"math"
	"reflect"
	"slices"
	"strconv"
	"strings"
	"testing"

	"quire/api"
	"quire/style"
)

// rows is the chapter's table, a row for each property, in the order of Props' fields.
var rows = []struct {
	p              api.Prop
	from, to, base int
}{
	{api.PropSize, 1, 64, 10},
	{api.PropPitch, 1, 255, 12},
	{api.PropAlign, 0, 3, 0},
	{api.PropFirst, 0, 255, 0},
	{api.PropIn, 0, 255, 0},
	{api.PropOut, 0, 255, 0},
	{api.PropBefore, 0, 255, 0},
	{api.PropAfter, 0, 255, 0},
	{api.PropNext, 0, 1, 0},
	{api.PropWhole, 0, 1, 0},
	{api.PropOrphan, 1, 4, 1},
	{api.PropWidow, 1, 4, 1},
	{api.PropHyphen, 0, 1, 0},
	{api.PropLeast, 0, 1, 0},
	{api.PropDrop, 0, 4, 0},
	{api.PropList, 0, 8, 0},
	{api.PropLevel, 0, 3, 0},
}

// wild is numbers that are no property.
var wild = []api.Prop{math.MinInt, math.MinInt + 1, math.MinInt32, -256, -18, -17, -2, -1, 0, 18, 19, 255, 257, 1 << 32, 1<<32 + 1, math.MaxInt - 1, math.MaxInt}

// bad is names that are none, but that of no byte.
var bad = []string{"A", "Z", " ", "a ", " a", "a b", "_", "a_b", "a.b", "\x00", "a\x00", "\n", "ä", "\xff", "\xe1", "/", ":", "`", "{", ",", "abcdefghijklmnopq", strings.Repeat("a", 256), strings.Repeat("a", 1<<20)}

func to(p api.Prop, v int) api.Setting { return api.Setting{P: p, V: v} }

func want(t *testing.T, what string, got, want any) {
	t.Helper()
	if got != want {
		t.Errorf("%s: %v, not %v", what, got, want)
	}
}

// propsOf makes properties of values, in the order of the fields.
func propsOf(value func(i int) int) api.Props {
	var p api.Props
	for i := range rows {
		reflect.ValueOf(&p).Elem().Field(i).SetInt(int64(value(i)))
	}
	return p
}

// but tells properties with another value of the one at a place.
func but(p api.Props, at, v int) api.Props {
	reflect.ValueOf(&p).Elem().Field(at).SetInt(int64(v))
	return p
}

// many makes a list of so many settings that may be, the last of which counts.
func many(n int) []api.Setting {
	l := make([]api.Setting, n)
	for i := range l {
		l[i] = to(api.PropFirst, i)
	}
	return l
}

// chain makes a sheet of n styles, each one the parent of the next, and its model; each sets In and a property of its own.
func chain(t *testing.T, n int) (*style.Sheet, model) {
	t.Helper()
	s, m := style.New(), model(nil)
	parent := ""
	for i := range n {
		r := rows[i%len(rows)]
		m = define(t, s, m, link(i), parent, []api.Setting{to(api.PropIn, 100+i), to(r.p, r.to)})
		parent = link(i)
	}
	want(t, "how many", len(m), n)
	same(t, s, m)
	return s, m
}

func link(i int) string { return "link-" + strconv.Itoa(i) }

// The examples of the chapter, row by row, on the same sheet.
func TestExamples(t *testing.T) {
	s := style.New()
	want(t, "Define(a, none, Size 12 and Size 14)", s.Define("a", "", []api.Setting{to(api.PropSize, 12), to(api.PropSize, 14)}), api.OK)
	want(t, "Define(b, a, In 5)", s.Define("b", "a", []api.Setting{to(api.PropIn, 5)}), api.OK)
	p, e := s.Resolve("b", []api.Setting{to(api.PropSize, 20)})
	want(t, "Resolve(b, Size 20)", e, api.OK)
	want(t, "Resolve(b, Size 20).Size", p.Size, 20)
	want(t, "Resolve(b, Size 20).In", p.In, 5)

	p, e = s.Resolve("b", nil)
	want(t, "Resolve(b)", e, api.OK)
	want(t, "Resolve(b).Size", p.Size, 14)
	want(t, "Resolve(b).Pitch", p.Pitch, 12)

	want(t, "Define(a, b, none)", s.Define("a", "b", nil), api.ErrLoop)
	want(t, "Define(c, x, none)", s.Define("c", "x", nil), api.ErrMissing)
	want(t, "Define(A, ..)", s.Define("A", "", nil), api.ErrBytes)
	want(t, "Remove(a)", s.Remove("a"), api.ErrState)

	want(t, "Remove(b)", s.Remove("b"), api.OK)
	if n := s.Names(); !slices.Equal(n, []string{"a"}) {
		t.Errorf("Names: %q, not a", n)
	}
	p, e = s.Resolve("b", nil)
	want(t, "Resolve(b)", p, api.Props{})
	want(t, "Resolve(b)", e, api.ErrMissing)
	p, e = s.Resolve("", nil)
	want(t, "Resolve of none", e, api.OK)
	want(t, "Resolve of none.Size", p.Size, 10)

	want(t, "Define(d, none, Size 65)", s.Define("d", "", []api.Setting{to(api.PropSize, 65)}), api.ErrArg)
	_, _, e = style.Bounds(18)
	want(t, "Bounds(18)", e, api.ErrArg)
	n, e := style.Get(style.Base(), api.PropOrphan)
	want(t, "Get(Base, Orphan)", n, 1)
	want(t, "Get(Base, Orphan)", e, api.OK)
}

// P3.1: the table, row by row, and what is no property.
func TestBoundsAndBase(t *testing.T) {
	want(t, "how many properties", reflect.TypeFor[api.Props]().NumField(), len(rows))
	for i, r := range rows {
		want(t, "number", r.p, api.Prop(i+1))
		a, b, e := style.Bounds(r.p)
		want(t, "Bounds, from", a, r.from)
		want(t, "Bounds, to", b, r.to)
		want(t, "Bounds", e, api.OK)
	}
	want(t, "Base", style.Base(), propsOf(func(i int) int { return rows[i].base }))
	want(t, "Base may be", style.May(style.Base()), true)
	for _, n := range wild {
		a, b, e := style.Bounds(n)
		want(t, "Bounds of none, from", a, 0)
		want(t, "Bounds of none, to", b, 0)
		want(t, "Bounds of none", e, api.ErrArg)
	}
}

// around tells values of a property at its bounds, between them, beside them and far out.
func around(from, to int) []int {
	return []int{math.MinInt, math.MinInt32, -256, -1, 0, from - 1, from, from + 1, (from + to) / 2, to - 1, to, to + 1, 256, 257, 1 << 32, 1<<32 + 1, 1<<32 + to, math.MaxInt}
}

// P3.1: each property at its bounds and beside them, while the others are at their bounds.
func TestMay(t *testing.T) {
	for _, others := range []api.Props{
		style.Base(),
		propsOf(func(i int) int { return rows[i].from }),
		propsOf(func(i int) int { return rows[i].to }),
	} {
		want(t, "May of all at their bounds", style.May(others), true)
		for i, r := range rows {
			for _, v := range around(r.from, r.to) {
				p := but(others, i, v)
				if style.May(p) != (v >= r.from && v <= r.to) {
					t.Errorf("May with %d of property %d: %v", v, r.p, style.May(p))
				}
			}
		}
	}
	want(t, "May of zero", style.May(api.Props{}), false)
}

// P3.1: Get tells what is there, whatever it is.
func TestGet(t *testing.T) {
	for _, p := range []api.Props{
		style.Base(),
		propsOf(func(i int) int { return 1000 + i }),
		propsOf(func(i int) int { return -i - 1 }),
		propsOf(func(i int) int { return math.MinInt + i }),
		{},
	} {
		for i, r := range rows {
			v, e := style.Get(p, r.p)
			want(t, "Get", v, int(reflect.ValueOf(p).Field(i).Int()))
			want(t, "Get", e, api.OK)
		}
		for _, n := range wild {
			v, e := style.Get(p, n)
			want(t, "Get of none", v, 0)
			want(t, "Get of none", e, api.ErrArg)
		}
	}
}

// P3.1: With sets the one property, if the setting may be, and looks at no other one; so do Define and Resolve.
func TestSettings(t *testing.T) {
	ps := []api.Props{style.Base(), propsOf(func(i int) int { return 1000 + i }), {}}
	for i, r := range rows {
		for _, v := range around(r.from, r.to) {
			may := v >= r.from && v <= r.to
			for _, p := range ps {
				if may {
					with(t, p, to(r.p, v), but(p, i, v), api.OK)
				} else {
					with(t, p, to(r.p, v), api.Props{}, api.ErrArg)
				}
			}
			if may {
				sheetWith(t, to(r.p, v), but(style.Base(), i, v), api.OK)
			} else {
				sheetWith(t, to(r.p, v), api.Props{}, api.ErrArg)
			}
		}
	}
	for _, n := range wild {
		for _, v := range []int{0, 1, -1, math.MinInt, math.MaxInt} {
			with(t, style.Base(), to(n, v), api.Props{}, api.ErrArg)
			sheetWith(t, to(n, v), api.Props{}, api.ErrArg)
		}
	}
}

func with(t *testing.T, p api.Props, x api.Setting, props api.Props, e api.Errno) {
	t.Helper()
	kept := p
	if got, err := style.With(p, x); got != props || err != e {
		t.Errorf("With(%v, %v): %v, %v, not %v, %v", p, x, got, err, props, e)
	}
	want(t, "what With was handed", p, kept)
}

// sheetWith tries a setting as a style's and as a paragraph's own, first, in the midst and last in its list.
func sheetWith(t *testing.T, x api.Setting, props api.Props, e api.Errno) {
	t.Helper()
	base := to(api.PropPitch, 12)
	if x.P == api.PropPitch {
		base = to(api.PropSize, 10)
	}
	for _, l := range [][]api.Setting{{x}, {x, base}, {base, x}, {base, x, base}} {
		s := style.New()
		if got, err := s.Resolve("", l); got != props || err != e {
			t.Errorf("Resolve(none, %v): %v, %v, not %v, %v", l, got, err, props, e)
		}
		want(t, "Define", s.Define("a", "", l), e)
		if e != api.OK {
			missing(t, s, "a")
			continue
		}
		if got, err := s.Resolve("a", nil); got != props || err != api.OK {
			t.Errorf("Resolve(a) of %v: %v, %v, not %v", l, got, err, props)
		}
	}
}

// P3.2: names of no byte, of 16 and of 17; each byte, in each place.
func TestNamesThatMayBe(t *testing.T) {
	for b := range 256 {
		may := b >= 'a' && b <= 'z' || b >= '0' && b <= '9' || b == '-'
		one := string([]byte{byte(b)})
		for _, name := range []string{one, one + "a", "a" + one, "a" + one + "-", strings.Repeat("0", 15) + one} {
			s := style.New()
			if may {
				want(t, "Define "+name, s.Define(name, "", nil), api.OK)
				same(t, s, model{{Name: name}})
			} else {
				want(t, "Define "+name, s.Define(name, "", nil), api.ErrBytes)
				missing(t, s, name)
				same(t, s, nil)
			}
		}
	}
	s := style.New()
	for n := range 40 {
		e := api.OK
		if n < 1 || n > 16 {
			e = api.ErrBytes
		}
		want(t, "Define", s.Define(strings.Repeat("z", n), "", nil), e)
	}
	want(t, "how many", len(s.Names()), 16)
	for _, name := range append(bad, "") {
		want(t, "Define", s.Define(name, "", nil), api.ErrBytes)
		missing(t, s, name)
	}
	want(t, "how many", len(s.Names()), 16)
}

// P3.2, rule 1: all errors that can meet in one call, in their order, of a sheet with room and of a full one; rule 3: what is refused changes nothing.
func TestDefineErrors(t *testing.T) {
	room, roomModel := chain(t, 31)
	full, fullModel := chain(t, 32)
	wrong := append(many(63), to(api.PropSize, 0))
	lists := [][]api.Setting{nil, {}, many(1), many(63), many(64), many(65), many(1000), wrong, append(wrong, wrong...), {to(0, 0)}, {to(18, 1), to(api.PropSize, 9)}, append(many(64), to(api.PropSize, 65))}
	names := []string{"", "A", strings.Repeat("a", 17), "new", link(0), link(7), link(30), link(31)}
	parents := append(names, "nowhere")
	for i, s := range []*style.Sheet{room, full} {
		m := []model{roomModel, fullModel}[i]
		for _, name := range names {
			for _, parent := range parents {
				for _, l := range lists {
					k := s.Clone()
					same(t, k, define(t, k, m, name, parent, l))
				}
			}
		}
		same(t, s, m)
	}
}

// P3.2: two errors at once, said one by one.
func TestFirstErrorCounts(t *testing.T) {
	s, m := chain(t, 32)
	arg, long := []api.Setting{to(api.PropSize, 65)}, append(many(64), to(api.PropSize, 65))
	for _, x := range []struct {
		name, parent string
		l            []api.Setting
		want         api.Errno
	}{
		{"A", "nowhere", long, api.ErrBytes},
		{"", "", nil, api.ErrBytes},
		{"A", "A", arg, api.ErrBytes},
		{"new", "nowhere", long, api.ErrMissing},
		{"new", "new", nil, api.ErrMissing},
		{"new", "new", arg, api.ErrMissing},
		{"new", "A", nil, api.ErrMissing},
		{link(3), "new", arg, api.ErrMissing},
		{link(3), link(3), long, api.ErrLong},
		{"new", "", long, api.ErrLong},
		{link(3), link(9), many(65), api.ErrLong},
		{link(3), link(3), arg, api.ErrArg},
		{link(3), link(9), arg, api.ErrArg},
		{"new", link(9), arg, api.ErrArg},
		{link(3), link(3), nil, api.ErrLoop},
		{link(3), link(4), nil, api.ErrLoop},
		{link(0), link(31), many(64), api.ErrLoop},
		{"new", "", nil, api.ErrFull},
		{"new", link(0), many(64), api.ErrFull},
		{"0123456789abcdef", link(31), nil, api.ErrFull},
	} {
		want(t, "Define("+x.name+", "+x.parent+")", s.Define(x.name, x.parent, x.l), x.want)
		same(t, s, m)
	}
}

// P3.2: a chain as long as can be: each style under each one: a loop just if that is itself or below it.
func TestLoops(t *testing.T) {
	s, m := chain(t, 32)
	for i := range 32 {
		for j := range 32 {
			k := s.Clone()
			e := api.OK
			if j >= i {
				e = api.ErrLoop
			}
			want(t, "Define("+link(i)+", "+link(j)+")", k.Define(link(i), link(j), nil), e)
			if p, _ := k.Parent(link(i)); e == api.OK && p != link(j) {
				t.Errorf("the parent of %s is %q, not %s", link(i), p, link(j))
			}
			if e != api.OK {
				same(t, k, m)
			}
		}
		k := s.Clone()
		same(t, k, define(t, k, m, link(i), "", nil))
	}
	same(t, s, m)
}

// P3.2: a loop is none any more where a style in its midst has another parent.
func TestLoopThatIsUndone(t *testing.T) {
	s, m := chain(t, 4)
	want(t, "Define of a loop", s.Define(link(0), link(3), nil), api.ErrLoop)
	m = define(t, s, m, link(2), "", nil)
	m = define(t, s, m, link(0), link(3), nil)
	same(t, s, m)
	want(t, "the first one's parent", m[0].Parent, link(3))
	want(t, "Define of the other loop", s.Define(link(2), link(1), nil), api.ErrLoop)
	want(t, "Define under itself", s.Define(link(2), link(2), nil), api.ErrLoop)
	same(t, s, m)
}

// P3.2, P11: 32 styles and one more; a new setting of one that is there; one that goes makes room for one.
func TestFull(t *testing.T) {
	s, m := style.New(), model(nil)
	for i := range 32 {
		want(t, "Define", s.Define(link(i), "", nil), api.OK)
		m = append(m, api.Named{Name: link(i)})
	}
	same(t, s, m)
	for range 3 {
		want(t, "one more", s.Define("more", "", nil), api.ErrFull)
		want(t, "one more, of one that is there", s.Define("more", link(5), many(3)), api.ErrFull)
		same(t, s, m)
		want(t, "anew", s.Define(link(9), link(4), []api.Setting{to(api.PropSize, 40)}), api.OK)
		m[9] = api.Named{Name: link(9), Parent: link(4), Sets: []api.Setting{to(api.PropSize, 40)}}
		same(t, s, m)
	}
	want(t, "Remove", s.Remove(link(31)), api.OK)
	want(t, "Define where one is gone", s.Define("more", link(9), nil), api.OK)
	m[31] = api.Named{Name: "more", Parent: link(9)}
	same(t, s, m)
	want(t, "one more again", s.Define(link(31), "", nil), api.ErrFull)
	k := s.Clone()
	want(t, "one more in a clone", k.Define(link(31), "", nil), api.ErrFull)
	want(t, "anew in a clone", k.Define("more", "", nil), api.OK)
	same(t, s, m)
}

// P3.2: 64 settings of one property are as many as 64 of several; 65 are too many, also if most do not count.
func TestHowManySettings(t *testing.T) {
	s := style.New()
	want(t, "Define of 65", s.Define("a", "", many(65)), api.ErrLong)
	missing(t, s, "a")
	want(t, "Define of 64", s.Define("a", "", many(64)), api.OK)
	p, e := s.Resolve("a", nil)
	want(t, "the last one", p.First, 63)
	want(t, "Resolve", e, api.OK)
	p, e = s.Resolve("a", append([]api.Setting{to(api.PropIn, 8)}, many(63)...))
	want(t, "Resolve with 64 of its own", e, api.OK)
	want(t, "First", p.First, 62)
	want(t, "In", p.In, 8)
	all := slices.Repeat([]api.Setting{to(api.PropSize, 7)}, 47)
	for _, r := range rows {
		all = append(all, to(r.p, r.to))
	}
	want(t, "how many", len(all), 64)
	want(t, "Define of 64 of all", s.Define("b", "a", all), api.OK)
	p, e = s.Resolve("b", nil)
	want(t, "Resolve of all", p, propsOf(func(i int) int { return rows[i].to }))
	want(t, "Resolve of all", e, api.OK)
	want(t, "Define anew of 65", s.Define("b", "a", append(all, all[0])), api.ErrLong)
	again, _ := s.Resolve("b", nil)
	want(t, "Resolve behind what was refused", again, p)
}

// P3.3, rule 1: the errors of Resolve in their order; beside them no properties.
func TestResolveErrors(t *testing.T) {
	s, m := chain(t, 3)
	arg, long := []api.Setting{to(api.PropSize, 65)}, append(many(64), to(api.PropSize, 65))
	for _, x := range []struct {
		name string
		own  []api.Setting
		want api.Errno
	}{
		{"nowhere", nil, api.ErrMissing},
		{"nowhere", long, api.ErrMissing},
		{"nowhere", arg, api.ErrMissing},
		{"A", arg, api.ErrMissing},
		{"LINK-1", nil, api.ErrMissing},
		{"link-1 ", nil, api.ErrMissing},
		{"link-", nil, api.ErrMissing},
		{"link-11", nil, api.ErrMissing},
		{"\x00", nil, api.ErrMissing},
		{"link-1", many(65), api.ErrLong},
		{"link-1", long, api.ErrLong},
		{"", many(65), api.ErrLong},
		{"", long, api.ErrLong},
		{"", many(1 << 16), api.ErrLong},
		{"link-1", arg, api.ErrArg},
		{"", arg, api.ErrArg},
		{"", append(many(63), arg...), api.ErrArg},
		{"link-2", append(slices.Clone(arg), many(63)...), api.ErrArg},
		{"link-2", []api.Setting{to(api.PropSize, 65), to(api.PropSize, 12)}, api.ErrArg},
		{"link-2", []api.Setting{to(0, 0)}, api.ErrArg},
		{"link-2", []api.Setting{to(math.MinInt, 0)}, api.ErrArg},
	} {
		p, e := s.Resolve(x.name, x.own)
		want(t, "Resolve("+x.name+")", e, x.want)
		want(t, "Resolve("+x.name+")", p, api.Props{})
		same(t, s, m)
	}
	for _, name := range bad {
		missing(t, s, name)
	}
	missing(t, s, "")
}

// P3.2: what a style was is gone, settings and parent; its children stay, and have what it is now.
func TestDefineAnew(t *testing.T) {
	s := style.New()
	m := define(t, s, nil, "top", "", []api.Setting{to(api.PropSize, 20), to(api.PropPitch, 30)})
	m = define(t, s, m, "other", "", []api.Setting{to(api.PropOut, 4)})
	m = define(t, s, m, "mid", "top", []api.Setting{to(api.PropIn, 9), to(api.PropSize, 21)})
	m = define(t, s, m, "low", "mid", []api.Setting{to(api.PropDrop, 2)})
	m = define(t, s, m, "low-2", "mid", nil)
	same(t, s, m)
	for _, x := range []struct {
		name, parent string
		l            []api.Setting
		want         api.Props
	}{
		{"mid", "top", []api.Setting{to(api.PropAfter, 6)}, api.Props{Size: 20, Pitch: 30, After: 6, Orphan: 1, Widow: 1, Drop: 2}},
		{"top", "", []api.Setting{to(api.PropSize, 8)}, api.Props{Size: 8, Pitch: 12, After: 6, Orphan: 1, Widow: 1, Drop: 2}},
		{"mid", "other", []api.Setting{to(api.PropIn, 3)}, api.Props{Size: 10, Pitch: 12, In: 3, Out: 4, Orphan: 1, Widow: 1, Drop: 2}},
		{"mid", "", nil, api.Props{Size: 10, Pitch: 12, Orphan: 1, Widow: 1, Drop: 2}},
		{"top", "low-2", []api.Setting{to(api.PropLevel, 3)}, api.Props{Size: 10, Pitch: 12, Orphan: 1, Widow: 1, Drop: 2}},
		{"low", "top", nil, api.Props{Size: 10, Pitch: 12, Orphan: 1, Widow: 1, Level: 3}},
	} {
		m = define(t, s, m, x.name, x.parent, x.l)
		same(t, s, m)
		p, e := s.Resolve("low", nil)
		want(t, "Resolve(low)", p, x.want)
		want(t, "Resolve(low)", e, api.OK)
	}
}

// P3.2: leaves go, parents do not; what is gone leaves nothing behind to one of its name.
func TestRemove(t *testing.T) {
	s, m := chain(t, 32)
	for i := range 31 {
		want(t, "Remove of a parent", s.Remove(link(i)), api.ErrState)
	}
	same(t, s, m)
	for i := 31; i >= 0; i-- {
		m = remove(t, s, m, link(i))
		want(t, "how many are left", len(m), i)
		same(t, s, m)
		missing(t, s, link(i))
		want(t, "Define under what is gone", s.Define("new", link(i), nil), api.ErrMissing)
	}
	want(t, "Define of what is gone, under itself", s.Define(link(5), link(5), nil), api.ErrMissing)
	want(t, "Define of what is gone", s.Define(link(5), "", nil), api.OK)
	same(t, s, model{{Name: link(5)}})
}

// P3.2: a style is no parent any more where its last child is gone, or has another parent.
func TestRemoveOfWhatWasAParent(t *testing.T) {
	s := style.New()
	m := define(t, s, nil, "a", "", nil)
	m = define(t, s, m, "b", "a", nil)
	m = define(t, s, m, "c", "a", nil)
	want(t, "two children", s.Remove("a"), api.ErrState)
	m = remove(t, s, m, "b")
	want(t, "one child", s.Remove("a"), api.ErrState)
	m = define(t, s, m, "c", "", nil)
	m = remove(t, s, m, "a")
	same(t, s, m)
	want(t, "how many", len(m), 1)
}

// P3.3, rule 8: rising as bytes, whatever the order in which they came.
func TestNames(t *testing.T) {
	rising := []string{"-", "--", "-0", "-a", "0", "0-", "00", "10", "2", "9z", "a", "a-", "a-b", "a0", "aa", "ab", "abcdefghijklmnop", "b", "z", "z-", "zz", "zzzzzzzzzzzzzzzz"}
	for step := 1; step < 22; step += 2 {
		if step == 11 { // it has a divisor in common with 22: not all would come
			continue
		}
		s := style.New()
		for i := range rising {
			want(t, "Define", s.Define(rising[i*step%len(rising)], "", nil), api.OK)
		}
		for range 20 {
			if got := s.Names(); !slices.Equal(got, rising) {
				t.Errorf("Names: %q, not %q", got, rising)
			}
			if got := s.Clone().Names(); !slices.Equal(got, rising) {
				t.Errorf("a clone's Names: %q, not %q", got, rising)
			}
		}
	}
	want(t, "Names of no styles", len(style.New().Names()), 0)
}

// P3.3: Parent tells the nearest one, and none of a style without.
func TestParent(t *testing.T) {
	s, _ := chain(t, 32)
	for i := range 32 {
		p, e := s.Parent(link(i))
		parent := ""
		if i > 0 {
			parent = link(i - 1)
		}
		want(t, "Parent", p, parent)
		want(t, "Parent", e, api.OK)
	}
	missing(t, style.New(), link(0))
	missing(t, s, "")
	missing(t, s, link(32))
}

// P3.4, P3: the nearest counts, property by property, up a chain as long as can be.
func TestNearestCounts(t *testing.T) {
	for _, r := range rows {
		s, name := style.New(), ""
		for i := range 32 {
			var l []api.Setting
			if i%3 == 1 {
				l = []api.Setting{to(r.p, r.from), to(r.p, r.from+i%(r.to-r.from+1))}
			}
			want(t, "Define", s.Define(link(i), name, l), api.OK)
			name = link(i)
		}
		for i := range 32 {
			near := r.base
			if i > 0 {
				near = r.from + (i-(i+2)%3)%(r.to-r.from+1)
			}
			p, _ := s.Resolve(link(i), nil)
			want(t, "Resolve", p, but(style.Base(), int(r.p)-1, near))
			for _, v := range []int{r.from, r.to} {
				p, _ = s.Resolve(link(i), []api.Setting{to(r.p, r.to), to(r.p, r.from), to(r.p, v)})
				want(t, "Resolve with its own", p, but(style.Base(), int(r.p)-1, v))
			}
		}
		p, _ := s.Resolve("", nil)
		want(t, "Resolve of none", p, style.Base())
	}
}

// P3.4: a setting that says what is so without a style counts too, against a parent's.
func TestSettingToBase(t *testing.T) {
	for i, r := range rows {
		other := r.to
		s := style.New()
		s.Define("a", "", []api.Setting{to(r.p, other)})
		s.Define("b", "a", []api.Setting{to(r.p, r.base)})
		s.Define("c", "a", nil)
		p, _ := s.Resolve("b", nil)
		want(t, "Resolve(b)", p, style.Base())
		p, _ = s.Resolve("c", nil)
		want(t, "Resolve(c)", p, but(style.Base(), i, other))
		p, _ = s.Resolve("c", []api.Setting{to(r.p, r.base)})
		want(t, "Resolve(c) with its own", p, style.Base())
	}
}

// P3.4: neither children nor strangers count, nor what a paragraph asked for earlier.
func TestOthersDoNotCount(t *testing.T) {
	s := style.New()
	s.Define("a", "", []api.Setting{to(api.PropSize, 20)})
	s.Define("b", "a", []api.Setting{to(api.PropIn, 5)})
	is := func() {
		t.Helper()
		p, e := s.Resolve("b", nil)
		want(t, "Resolve(b)", p, api.Props{Size: 20, Pitch: 12, In: 5, Orphan: 1, Widow: 1})
		want(t, "Resolve(b)", e, api.OK)
	}
	is()
	wild := []api.Setting{to(api.PropSize, 1), to(api.PropIn, 2), to(api.PropPitch, 3), to(api.PropWidow, 4)}
	for _, x := range [][2]string{{"c", ""}, {"d", "a"}, {"e", "b"}, {"f", "e"}, {"aa", ""}, {"b-", "b"}, {"bb", "c"}} {
		want(t, "Define", s.Define(x[0], x[1], wild), api.OK)
		is()
	}
	s.Resolve("b", wild)
	s.Resolve("", wild)
	is()
	for _, name := range []string{"bb", "c", "f", "e", "d"} {
		want(t, "Remove", s.Remove(name), api.OK)
		is()
	}
	want(t, "Define of what is refused", s.Define("a", "b", wild), api.ErrLoop)
	is()
}

// P3.3: clones are the same and go their own ways.
func TestClone(t *testing.T) {
	x, m := chain(t, 5)
	y := x.Clone()
	z := y.Clone()
	want(t, "a clone is another one", x != y && y != z && x != z, true)
	mx := define(t, x, m, link(0), "", []api.Setting{to(api.PropSize, 33)})
	my := remove(t, y, m, link(4))
	my = define(t, y, my, link(2), "", many(3))
	mz := define(t, z, m, "new", link(4), nil)
	mz = define(t, z, mz, link(1), "", nil)
	same(t, x, mx)
	same(t, y, my)
	same(t, z, mz)
	same(t, x.Clone(), mx)
	e := style.New()
	k := e.Clone()
	want(t, "Define in an empty clone", k.Define("a", "", nil), api.OK)
	same(t, e, nil)
	same(t, k, model{{Name: "a"}})
}

// Two sheets that New made have nothing in common.
func TestSheetsApart(t *testing.T) {
	x, y := style.New(), style.New()
	want(t, "two sheets", x != y, true)
	want(t, "Define", x.Define("a", "", nil), api.OK)
	same(t, y, nil)
	missing(t, y, "a")
	same(t, x, model{{Name: "a"}})
}

// Rule 5: a Sheet that is nil, or that neither New nor Clone made.
func TestNoSheet(t *testing.T) {
	made, _ := chain(t, 2)
	copied := *made
	for _, s := range []*style.Sheet{nil, {}, new(style.Sheet), &copied} {
		for _, name := range append([]string{"", "a", link(0), link(1)}, bad...) {
			for _, l := range [][]api.Setting{nil, many(3), many(65), {to(0, 0)}} {
				want(t, "Define", s.Define(name, "", l), api.ErrNil)
				want(t, "Define", s.Define("a", name, l), api.ErrNil)
				p, e := s.Resolve(name, l)
				want(t, "Resolve", p, api.Props{})
				want(t, "Resolve", e, api.ErrNil)
			}
			want(t, "Remove", s.Remove(name), api.ErrNil)
			p, e := s.Parent(name)
			want(t, "Parent", p, "")
			want(t, "Parent", e, api.ErrNil)
		}
		want(t, "Names", len(s.Names()), 0)
		want(t, "Clone", s.Clone() == nil, true)
	}
}

// Rule 4: lists that are changed behind the call that was handed them; their spare room is neither read nor written.
func TestListsThatAreHandedIn(t *testing.T) {
	room := []api.Setting{to(api.PropSize, 14), to(api.PropIn, 5), to(-7, -7), to(api.PropSize, 65)}
	kept := slices.Clone(room)
	s, m := style.New(), model{{Name: "a", Sets: slices.Clone(room[:2])}, {Name: "b", Parent: "a", Sets: slices.Clone(room[:1])}}
	want(t, "Define", s.Define("a", "", room[:2]), api.OK)
	want(t, "Define", s.Define("b", "a", room[:1]), api.OK)
	p, e := s.Resolve("b", room[:2])
	want(t, "Resolve", p, api.Props{Size: 14, Pitch: 12, In: 5, Orphan: 1, Widow: 1})
	want(t, "Resolve", e, api.OK)
	want(t, "Define of what may not be", s.Define("a", "", room), api.ErrArg)
	k := s.Clone()
	if !slices.Equal(room, kept) {
		t.Errorf("the list is %v, not %v", room, kept)
	}
	for i := range room {
		room[i] = to(api.PropSize, 50+i)
	}
	same(t, s, m)
	same(t, k, m)
	want(t, "Define anew", s.Define("a", "", room[:3]), api.OK)
	clear(room)
	m[0].Sets = []api.Setting{to(api.PropSize, 52)}
	same(t, s, m)
}

// Rule 4: what Names answered may be written anew, its spare room too: the sheet stays, and so do other answers.
func TestNamesAreNewMemory(t *testing.T) {
	s, m := chain(t, 5)
	k := s.Clone()
	one, two := s.Names(), s.Names()
	one = one[:cap(one)]
	for i := range one {
		one[i] = "z"
	}
	same(t, s, m)
	same(t, k, m)
	if !slices.Equal(two, m.names()) {
		t.Errorf("one answer is written into another one: %q", two)
	}
	three, names := s.Names(), m.names()
	m = remove(t, s, m, link(4))
	m = define(t, s, m, "a", "", nil)
	m = define(t, s, m, "b", "", nil)
	if !slices.Equal(three, names) {
		t.Errorf("an edit is written into an answer: %q", three)
	}
	same(t, s, m)
}
