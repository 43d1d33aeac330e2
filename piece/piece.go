// Package piece is layer 1: a text in pieces: see shared/doc/01-piece.md.
package piece

import (
	"iter"
	"strings"

	"quire/api"
)

// Text is a text in pieces. New and Clone make it.
type Text struct {
	self *Text // itself, so that neither a Text that nobody made nor a copy of one passes for one that was made
	runs []run // never written in place: an edit puts together a new list
}

// run is a piece: its bytes, at least one.
type run struct {
	bytes string
}

// New makes a text.
func New(s string) (*Text, api.Errno) {
	if e := refuse(s, 0); e != api.OK {
		return nil, e
	}
	return textOf(newRun(s)), api.OK
}

// May tells whether all bytes of a text may stand in one.
func May(s string) bool {
	for i := range len(s) {
		if !stands(s[i]) {
			return false
		}
	}
	return true
}

// Insert puts s in ahead of what stands at a place.
func (t *Text) Insert(at int, s string) api.Errno {
	if !t.made() {
		return api.ErrNil
	}
	n := t.Len()
	if at < 0 || at > n {
		return api.ErrRange
	}
	if e := refuse(s, n); e != api.OK {
		return e
	}
	if s == "" { // else the piece around the place would be cut for nothing
		return api.OK
	}
	head := append(t.part(0, at), newRun(s)...)
	t.runs = append(head, t.part(at, n)...)
	return api.OK
}

// Delete takes n bytes out from a place on.
func (t *Text) Delete(at, n int) api.Errno {
	if !t.made() {
		return api.ErrNil
	}
	all := t.Len()
	if at < 0 || n < 0 || n > all-at { // not at+n, which may wrap round
		return api.ErrRange
	}
	t.runs = append(t.part(0, at), t.part(at+n, all)...)
	return api.OK
}

// Slice tells the bytes between two places.
func (t *Text) Slice(from, to int) (string, api.Errno) {
	if !t.made() {
		return "", api.ErrNil
	}
	if from < 0 || to < from || to > t.Len() {
		return "", api.ErrRange
	}
	return t.join(from, to), api.OK
}

// Byte tells the byte at a place.
func (t *Text) Byte(at int) (byte, api.Errno) {
	if !t.made() {
		return 0, api.ErrNil
	}
	for start, r := range t.walk() {
		if at >= start && at-start < len(r.bytes) {
			return r.bytes[at-start], api.OK
		}
	}
	return 0, api.ErrRange
}

// Find tells the first place of b from a place on, or -1.
func (t *Text) Find(b byte, from int) int {
	for at, r := range t.between(max(from, 0), t.Len()) {
		if i := strings.IndexByte(r.bytes, b); i >= 0 {
			return at + i
		}
	}
	return -1
}

// Count tells how often b stands in the text.
func (t *Text) Count(b byte) int {
	n := 0
	for _, r := range t.walk() {
		for i := range len(r.bytes) {
			if r.bytes[i] == b {
				n++
			}
		}
	}
	return n
}

// Len tells how many bytes there are.
func (t *Text) Len() int {
	n := 0
	for _, r := range t.walk() {
		n += len(r.bytes)
	}
	return n
}

// Pieces tells in how many pieces they stand.
func (t *Text) Pieces() int {
	n := 0
	for range t.walk() {
		n++
	}
	return n
}

// Clone makes another text that is the same, piece by piece.
func (t *Text) Clone() *Text {
	if !t.made() {
		return nil
	}
	var runs []run
	whole := t.join(0, t.Len()) // one text for all pieces: new memory without one allocation for each
	for at, r := range t.walk() {
		runs = append(runs, run{whole[at : at+len(r.bytes)]})
	}
	return textOf(runs)
}

// made tells whether New or Clone answered this text.
func (t *Text) made() bool { return t != nil && t.self == t }

// walk goes through all pieces, each with the place where it begins. What is no text has none.
func (t *Text) walk() iter.Seq2[int, run] {
	return func(yield func(int, run) bool) {
		if !t.made() {
			return
		}
		at := 0
		for _, r := range t.runs {
			if !yield(at, r) {
				return
			}
			at += len(r.bytes)
		}
	}
}

// between goes through what the pieces have between two places, each part with the place where it begins.
func (t *Text) between(from, to int) iter.Seq2[int, run] {
	return func(yield func(int, run) bool) {
		for at, r := range t.walk() {
			a, b := max(from-at, 0), min(to-at, len(r.bytes))
			if a < b && !yield(at+a, run{r.bytes[a:b]}) {
				return
			}
		}
	}
}

// part tells the pieces between two places in a list of their own, cut at both.
func (t *Text) part(from, to int) []run {
	var runs []run
	for _, r := range t.between(from, to) {
		runs = append(runs, r)
	}
	return runs
}

// join tells the bytes between two places in new memory.
func (t *Text) join(from, to int) string {
	var out strings.Builder
	for _, r := range t.between(from, to) {
		out.WriteString(r.bytes)
	}
	return out.String()
}

// textOf makes a text of pieces.
func textOf(runs []run) *Text {
	t := &Text{runs: runs}
	t.self = t
	return t
}

// newRun tells the pieces that s makes: one, or none of no bytes. What was handed in is not kept.
func newRun(s string) []run {
	if s == "" {
		return nil
	}
	return []run{{strings.Clone(s)}}
}

// refuse tells why s may not come to a text of n bytes.
func refuse(s string, n int) api.Errno {
	if !May(s) {
		return api.ErrBytes
	}
	if len(s) > api.MaxText-n {
		return api.ErrFull
	}
	return api.OK
}

// stands tells whether a byte may stand in a text.
func stands(b byte) bool {
	switch b {
	case api.Anchor, api.Ref, api.Field, api.Grid, api.Tab, api.End, api.Soft:
		return true
	}
	return b >= 32 && b <= 126
}
