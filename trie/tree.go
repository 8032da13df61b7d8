package trie

import (
	"math/bits"

	"ferryman/addr"
	"ferryman/api"
)

// node is a tree that has entries: a leaf or a fork. Both are values: a tree with another entry is another tree, and who has the old one sees nothing of it.
type node interface {
	top() api.Prefix6 // the longest prefix that covers those of all its entries
}

// leaf is an entry.
type leaf struct {
	prefix api.Prefix6
	value  int
}

// fork is where prefixes part. It always has two kids or three, so that the same entries make the same tree.
type fork struct {
	prefix api.Prefix6
	kids   [3]node // the entry of just that prefix, those whose next bit is 0, those whose next bit is 1: the order in which they are told
}

func (l leaf) top() api.Prefix6 { return l.prefix }

func (f fork) top() api.Prefix6 { return f.prefix }

// side is the place among its kids of a prefix that the fork's covers.
func (f fork) side(p api.Prefix6) int {
	if p.Len == f.prefix.Len {
		return 0
	}
	return 1 + int(p.Addr[f.prefix.Len/8]>>(7-f.prefix.Len%8)&1)
}

// with is a tree with that entry, in place of the one of its prefix.
func with(n node, l leaf) node {
	switch x := n.(type) {
	case nil:
		return l
	case leaf:
		if x.prefix == l.prefix {
			return l
		}
	case fork:
		if covers(x.prefix, l.prefix) {
			at := x.side(l.prefix)
			x.kids[at] = with(x.kids[at], l)
			return x
		}
	}
	return parted(n, l)
}

// parted is a tree and an entry for which it has no place, below a fork.
func parted(n node, l leaf) node {
	f := fork{prefix: common(n.top(), l.prefix)}
	f.kids[f.side(n.top())] = n
	f.kids[f.side(l.prefix)] = l
	return f
}

// without is a tree without the entry of a prefix, which it has.
func without(n node, p api.Prefix6) node {
	f, is := n.(fork)
	if !is {
		return nil
	}
	at := f.side(p)
	f.kids[at] = without(f.kids[at], p)
	return f.slim()
}

// slim is a fork, or, if it has but one kid left, that one.
func (f fork) slim() node {
	var last node
	left := 0
	for _, kid := range f.kids {
		if kid != nil {
			last = kid
			left++
		}
	}
	if left == 1 {
		return last
	}
	return f
}

// each hands on a tree's entries in order, but those below a top that is not wanted.
func each(n node, wanted func(api.Prefix6) bool, take func(leaf)) {
	if n == nil || !wanted(n.top()) {
		return
	}
	switch x := n.(type) {
	case leaf:
		take(x)
	case fork:
		for _, kid := range x.kids {
			each(kid, wanted, take)
		}
	}
}

// over hands on the entries that cover a prefix, which lie one in the other: the shortest ahead.
func over(n node, p api.Prefix6, take func(leaf)) {
	each(n, func(top api.Prefix6) bool { return covers(top, p) }, take)
}

// under hands on the entries that a prefix covers, in order.
func under(n node, p api.Prefix6, take func(leaf)) {
	meets := func(top api.Prefix6) bool { return covers(p, top) || covers(top, p) }
	each(n, meets, func(l leaf) {
		if covers(p, l.prefix) {
			take(l)
		}
	})
}

// longest is the longest entry that covers a prefix; false: there is none.
func longest(n node, p api.Prefix6) (best leaf, found bool) {
	over(n, p, func(l leaf) { best, found = l, true })
	return best, found
}

func covers(p, q api.Prefix6) bool {
	c, _ := addr.Cover6(p, q)
	return c
}

// common is the longest prefix that covers both.
func common(p, q api.Prefix6) api.Prefix6 {
	both, _ := addr.Cut6(p.Addr, min(p.Len, q.Len, lead(p.Addr, q.Addr)))
	return both
}

// lead is how many bits two addresses have alike ahead of the first that differs.
func lead(a, b api.Addr6) int {
	for i := range a {
		if x := a[i] ^ b[i]; x != 0 {
			return 8*i + bits.LeadingZeros8(x)
		}
	}
	return bits6
}
