package style_test

import (
	"reflect"
	"slices"
	"strconv"
	"strings"
	"testing"

	"quire/api"
	"quire/style"
)

// model is a sheet as plain as can be: its styles in the order in which they came.
type model []api.Named

// find tells where a style stands, or -1.
func (m model) find(name string) int {
	return slices.IndexFunc(m, func(x api.Named) bool { return x.Name == name })
}

// above tells a style and its ancestors, the nearest first.
func (m model) above(name string) []api.Named {
	var out []api.Named
	for i := m.find(name); i >= 0; i = m.find(m[i].Parent) {
		out = append(out, m[i])
	}
	return out
}

func (m model) names() []string {
	var out []string
	for _, x := range m {
		out = append(out, x.Name)
	}
	slices.Sort(out)
	return out
}

func wrong(l []api.Setting) api.Errno {
	if len(l) > 64 {
		return api.ErrLong
	}
	if slices.ContainsFunc(l, func(x api.Setting) bool {
		return x.P < 1 || x.P > 17 || x.V < rows[x.P-1].from || x.V > rows[x.P-1].to
	}) {
		return api.ErrArg
	}
	return api.OK
}

func (m model) define(name, parent string, l []api.Setting) (model, api.Errno) {
	if len(name) < 1 || len(name) > 16 || strings.Trim(name, "abcdefghijklmnopqrstuvwxyz0123456789-") != "" {
		return m, api.ErrBytes
	}
	if parent != "" && m.find(parent) < 0 {
		return m, api.ErrMissing
	}
	if e := wrong(l); e != api.OK {
		return m, e
	}
	if slices.ContainsFunc(m.above(parent), func(x api.Named) bool { return x.Name == name }) {
		return m, api.ErrLoop
	}
	out := slices.Clone(m)
	is := api.Named{Name: name, Parent: parent, Sets: slices.Clone(l)}
	if i := m.find(name); i >= 0 {
		out[i] = is
		return out, api.OK
	}
	if len(m) == 32 {
		return m, api.ErrFull
	}
	return append(out, is), api.OK
}

func (m model) remove(name string) (model, api.Errno) {
	i := m.find(name)
	if i < 0 {
		return m, api.ErrMissing
	}
	if slices.ContainsFunc(m, func(x api.Named) bool { return x.Parent == name }) {
		return m, api.ErrState
	}
	return slices.Delete(slices.Clone(m), i, i+1), api.OK
}

// resolve seeks each property by itself: the last setting of the nearest list that has one.
func (m model) resolve(name string, own []api.Setting) api.Props {
	lists := [][]api.Setting{own}
	for _, x := range m.above(name) {
		lists = append(lists, x.Sets)
	}
	var p api.Props
	for i, r := range rows {
		v := r.base
		if l := slices.IndexFunc(lists, func(l []api.Setting) bool { return len(of(l, r.p)) > 0 }); l >= 0 {
			v = of(lists[l], r.p)[len(of(lists[l], r.p))-1]
		}
		reflect.ValueOf(&p).Elem().Field(i).SetInt(int64(v))
	}
	return p
}

// of tells the values of a property in a list.
func of(l []api.Setting, p api.Prop) []int {
	var out []int
	for _, x := range l {
		if x.P == p {
			out = append(out, x.V)
		}
	}
	return out
}

// same tells whether a sheet and its model are the same, in all that calls tell.
func same(t *testing.T, s *style.Sheet, m model) {
	t.Helper()
	if got := s.Names(); !slices.Equal(got, m.names()) {
		t.Fatalf("the styles are %q, not %q", got, m.names())
	}
	own := []api.Setting{to(api.PropDrop, 3), to(api.PropSize, 33), to(api.PropDrop, 2)}
	for _, x := range append(slices.Clone(m), api.Named{}) {
		if x.Name != "" {
			if got, e := s.Parent(x.Name); got != x.Parent || e != api.OK {
				t.Fatalf("Parent(%q): %q, %v, not %q", x.Name, got, e, x.Parent)
			}
		}
		for _, l := range [][]api.Setting{nil, own} {
			if got, e := s.Resolve(x.Name, l); got != m.resolve(x.Name, l) || e != api.OK {
				t.Fatalf("Resolve(%q, %v): %v, %v, not %v", x.Name, l, got, e, m.resolve(x.Name, l))
			}
		}
	}
}

// missing tells whether a sheet has no style of this name.
func missing(t *testing.T, s *style.Sheet, name string) {
	t.Helper()
	p, e := s.Parent(name)
	want(t, "Parent of what is missing", p, "")
	want(t, "Parent of what is missing", e, api.ErrMissing)
	want(t, "Remove of what is missing", s.Remove(name), api.ErrMissing)
	if name == "" {
		return
	}
	r, e := s.Resolve(name, nil)
	want(t, "Resolve of what is missing", r, api.Props{})
	want(t, "Resolve of what is missing", e, api.ErrMissing)
}

// define and remove edit a sheet and its model.
func define(t *testing.T, s *style.Sheet, m model, name, parent string, l []api.Setting) model {
	t.Helper()
	out, e := m.define(name, parent, l)
	if got := s.Define(name, parent, l); got != e {
		t.Fatalf("Define(%q, %q, %v) of %q: %v, not %v", name, parent, l, m.names(), got, e)
	}
	return out
}

func remove(t *testing.T, s *style.Sheet, m model, name string) model {
	t.Helper()
	out, e := m.remove(name)
	if got := s.Remove(name); got != e {
		t.Fatalf("Remove(%q) of %v: %v, not %v", name, m, got, e)
	}
	return out
}

// All short sequences of edits of three styles, some refused, each on a clone; what they were cloned of stays (P3.2, P3.3, P3.4).
func TestAllShortEdits(t *testing.T) {
	names := []string{"a", "b", "c"}
	lists := [][]api.Setting{nil, {to(api.PropSize, 12), to(api.PropIn, 7), to(api.PropSize, 14)}, {to(api.PropIn, 5), to(api.PropLevel, 4)}}
	var deeper func(s *style.Sheet, m model, left int)
	deeper = func(s *style.Sheet, m model, left int) {
		same(t, s, m)
		if left == 0 {
			return
		}
		for _, name := range names {
			for _, parent := range append([]string{""}, names...) {
				for i := range lists {
					k := s.Clone()
					deeper(k, define(t, k, m, name, parent, lists[i]), left-1)
				}
			}
			k := s.Clone()
			deeper(k, remove(t, k, m, name), left-1)
		}
		same(t, s, m)
	}
	deeper(style.New(), nil, 2)
	s, m := style.New(), model(nil)
	m = define(t, s, m, "b", "", []api.Setting{to(api.PropIn, 1), to(api.PropAfter, 9)})
	deeper(s, m, 2)
	m = define(t, s, m, "c", "b", []api.Setting{to(api.PropIn, 2)})
	deeper(s, m, 2)
	m = define(t, s, m, "a", "c", []api.Setting{to(api.PropAlign, 2)})
	deeper(s, m, 2)
}

// A long row of edits that the same numbers make each time, of more names than there may be styles, with clones kept beside.
func TestManyEdits(t *testing.T) {
	seed := uint32(1)
	next := func(n int) int {
		seed = seed*1664525 + 1013904223
		return int(seed>>8) % n
	}
	name := func() string { return "s-" + strconv.Itoa(next(40)) }
	s, m := style.New(), model(nil)
	aside, kept := s.Clone(), m
	for i := range 6000 {
		parent := ""
		if next(4) > 0 && len(m) > 0 {
			parent = m[next(len(m))].Name
		}
		l := make([]api.Setting, next(5))
		for j := range l {
			r := rows[next(17)]
			l[j] = to(r.p, r.from+next(r.to-r.from+1))
		}
		if next(20) == 0 {
			l = append(l, to(api.Prop(next(19)), next(300)))
		}
		if next(4) == 0 {
			m = remove(t, s, m, name())
		} else {
			m = define(t, s, m, name(), parent, l)
		}
		clear(l)
		same(t, s, m)
		if i%97 == 50 {
			same(t, aside, kept)
			aside, kept = s.Clone(), m
		}
	}
	same(t, aside, kept)
}
