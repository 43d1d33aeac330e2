package least

import (
	"slices"

	"quire/api"
	"quire/item"
)

// sums is how wide items are together, and by how much they may stretch and shrink.
type sums struct {
	w, stretch, shrink int
}

// stop is a break, or the beginning of all: where it is, where the line behind it begins, what stands ahead of both. It is known by what all items ahead come to, so that a line between two of them is told at once, however long it is.
type stop struct {
	at       int
	next     int
	ended    sums // up to the break, as in a line that ends there
	begun    sums // up to the next line
	cost     int
	hyphen   bool
	last     bool
	tightest int // of this break and all later ones: the least that tight tells
}

// ruler is items, and what those ahead of each place come to: all, and without the Glues at the end.
type ruler struct {
	items []api.Item
	all   []sums
	bare  []sums
}

// measure adds items up.
func measure(l []api.Item) ruler {
	r := ruler{l, make([]sums, len(l)+1), make([]sums, len(l)+1)}
	for i, it := range l {
		s := r.all[i]
		if it.Kind != api.Penalty { // whose W counts where a line ends alone
			s.w += it.W
		}
		s.stretch += it.Stretch
		s.shrink += it.Shrink
		r.all[i+1], r.bare[i+1] = s, s
		if it.Kind == api.Glue {
			r.bare[i+1] = r.bare[i]
		}
	}
	return r
}

// beginning tells where the first line begins, behind no break.
func (r ruler) beginning() stop {
	at := begin(r.items)
	return stop{next: at, begun: r.all[at]}
}

// stop tells of a legal break.
func (r ruler) stop(b int) stop {
	at := next(r.items, b)
	s := stop{at: b, next: at, ended: r.bare[b], begun: r.all[at], last: b == len(r.items)}
	if !s.last && r.items[b].Kind == api.Penalty {
		s.ended.w += r.items[b].W
		s.cost, s.hyphen = r.items[b].Cost, r.items[b].Hyphen
	}
	return s
}

// stops tells of the beginning, and of all breaks at which a line may end.
func (r ruler) stops() []stop {
	l := []stop{r.beginning()}
	for b := l[0].next + 1; b <= len(r.items); b++ {
		if legal(r.items, b) {
			l = append(l, r.stop(b))
		}
	}
	least := tight(l[len(l)-1].ended)
	for i := range l {
		s := &l[len(l)-1-i]
		least = min(least, tight(s.ended))
		s.tightest = least
	}
	return l
}

// path tells of the beginning, and of breaks, if these may be the items'. That each is above where its line begins has them rise, and leaves out those behind which are Glues alone.
func (r ruler) path(breaks []int) ([]stop, bool) {
	if len(breaks) == 0 || breaks[len(breaks)-1] != len(r.items) {
		return nil, false
	}
	l := []stop{r.beginning()}
	for n, b := range breaks {
		if b <= l[n].next || b > len(r.items) || !legal(r.items, b) {
			return nil, false
		}
		l = append(l, r.stop(b))
	}
	return l, true
}

// begin tells the first item that is no Glue.
func begin(l []api.Item) int {
	at := slices.IndexFunc(l, func(it api.Item) bool { return it.Kind != api.Glue })
	if at < 0 {
		return len(l)
	}
	return at
}

// legal tells whether a line may end ahead of an item that is not the first. Only that and the one ahead are handed on, since item goes through all that it is handed.
func legal(l []api.Item, b int) bool {
	return item.Legal(l[b-1:min(b+1, len(l))], 1)
}

// next tells where the line behind a break begins. Only the items up to the first behind it that is no Glue are handed on, for the same reason.
func next(l []api.Item, b int) int {
	behind := min(b+1, len(l))
	end := behind + begin(l[behind:])
	n, _ := item.Start(l[b:end], 0)
	return b + n
}

// tight tells how wide items are, in thousandths, if they shrink as much as the tolerance keeps: up to where the ratio, rounded down, is above it.
func tight(s sums) int { return thousand*s.w - (mostShrunk+1)*s.shrink }

// line tells what a line between two breaks comes to.
func line(a, b *stop) sums {
	return sums{b.ended.w - a.begun.w, b.ended.stretch - a.begun.stretch, b.ended.shrink - a.begun.shrink}
}

// demerits tells a line's demerits in a slot of a width, if there is such a line and it keeps the tolerance.
func demerits(a, b *stop, width int) (int, bool) {
	if b.at <= a.next {
		return 0, false
	}
	r, ok := ratio(line(a, b), width, b.last)
	if !ok {
		return 0, false
	}
	d := api.LineDemerit + r*r/thousand + b.cost
	d *= d
	if a.hyphen && b.hyphen {
		d += api.TwoHyphens
	}
	return d, true
}

// ratio tells by how much of what it has a line stretches or shrinks in a slot of a width, and whether it keeps the tolerance.
func ratio(s sums, width int, last bool) (int, bool) {
	switch {
	case s.w == width || s.w < width && last:
		return 0, true
	case s.w < width:
		return part(width-s.w, s.stretch, api.Tolerance)
	}
	return part(s.w-width, s.shrink, mostShrunk)
}

// part tells how many thousandths of what can be given is needed, and whether that is at most so many.
func part(need, give, most int) (int, bool) {
	if give == 0 {
		return 0, false
	}
	r := thousand * need / give
	return r, r <= most
}

// piece tells the line between two breaks in a slot of a width.
func piece(a, b *stop, width int) api.Piece {
	w := line(a, b).w
	return api.Piece{A: a.next, B: b.at, Wide: w > width, Hyphen: b.hyphen, Natural: w}
}
