package pathmtu

import (
	"bytes"
	"cmp"
	"slices"
	"sort"

	"ferryman/api"
)

// paths is what a cache keeps.
type paths struct {
	conf  api.PathConf
	now   int // the greatest time of a call without an error
	known map[api.Addr6]*api.PathEntry
	line  []*api.PathEntry // the same, in the order in which they go, if nobody drops them
}

// order tells which of two entries goes first: of those that end at once the one with the lesser address.
func order(a, b *api.PathEntry) int {
	return cmp.Or(cmp.Compare(a.Until, b.Until), bytes.Compare(a.Dst[:], b.Dst[:]))
}

// goOn lets the time go on, and all entries go that do not count any more.
func (p *paths) goOn(now int) {
	p.now = now
	p.forget(0, sort.Search(len(p.line), func(i int) bool { return p.line[i].Until > now }))
}

// forget lets the entries from one place of the line to another go.
func (p *paths) forget(from, to int) {
	for _, e := range p.line[from:to] {
		delete(p.known, e.Dst)
	}
	p.line = slices.Delete(p.line, from, to)
}

// place is where an entry stands in the line, or would.
func (p *paths) place(e *api.PathEntry) int {
	return sort.Search(len(p.line), func(i int) bool { return order(p.line[i], e) >= 0 })
}

func (p *paths) mtu(dst api.Addr6) int {
	if e := p.known[dst]; e != nil {
		return e.MTU
	}
	return p.conf.Link
}

// drop lets a path's entry go; was there one?
func (p *paths) drop(dst api.Addr6) bool {
	e := p.known[dst]
	if e == nil {
		return false
	}
	at := p.place(e)
	p.forget(at, at+1)
	return true
}

// put makes a path's entry: in place of its earlier one, or, where there is no room, of the first in line.
func (p *paths) put(e api.PathEntry) {
	if !p.drop(e.Dst) && len(p.line) == p.conf.Limit {
		p.forget(0, 1)
	}
	p.known[e.Dst] = &e
	p.line = slices.Insert(p.line, p.place(&e), &e)
}

// all is all entries, by their addresses.
func (p *paths) all() []api.PathEntry {
	var l []api.PathEntry
	for _, e := range p.line {
		l = append(l, *e)
	}
	slices.SortFunc(l, func(a, b api.PathEntry) int { return bytes.Compare(a.Dst[:], b.Dst[:]) })
	return l
}
