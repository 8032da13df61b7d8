package trie

import (
	"ferryman/addr"
	"ferryman/api"
)

func (t *Table) check4(p api.Prefix4) api.Errno {
	if t == nil || !t.made {
		return api.ErrNil
	}
	return addr.Check4(p)
}

func (t *Table) check6(p api.Prefix6) api.Errno {
	if t == nil || !t.made {
		return api.ErrNil
	}
	return addr.Check6(p)
}

// put makes an entry of one of the table's trees; was there one of its prefix?
func (t *Table) put(tree *node, l leaf) (bool, api.Errno) {
	_, was := get(*tree, l.prefix)
	if !was && t.count == t.limit {
		return false, api.ErrMany
	}
	if !was {
		t.count++
	}
	*tree = with(*tree, l)
	return was, api.OK
}

// del takes an entry of one of the table's trees away.
func (t *Table) del(tree *node, p api.Prefix6) api.Errno {
	if _, is := get(*tree, p); !is {
		return api.ErrKey
	}
	t.count--
	*tree = without(*tree, p)
	return api.OK
}

// get is the value of the entry with just that prefix.
func get(tree node, p api.Prefix6) (int, bool) {
	// An entry of the prefix itself is the longest of those that cover it.
	l, has := longest(tree, p)
	if !has || l.prefix != p {
		return 0, false
	}
	return l.value, true
}

// list4 is the entries that a walk of the tree of IPv4 prefixes hands on.
func (t *Table) list4(p api.Prefix4, walk func(node, api.Prefix6, func(leaf))) ([]api.Entry4, api.Errno) {
	if e := t.check4(p); e != api.OK {
		return nil, e
	}
	var out []api.Entry4
	walk(t.four, key4(p), func(l leaf) { out = append(out, entry4(l)) })
	return out, api.OK
}

// key4 is the IPv6 prefix of the same bits, as which an IPv4 prefix stands in a tree: trees are of one kind.
func key4(p api.Prefix4) api.Prefix6 {
	k := api.Prefix6{Len: p.Len}
	copy(k.Addr[:], p.Addr[:])
	return k
}

func entry4(l leaf) api.Entry4 {
	e := api.Entry4{Prefix: api.Prefix4{Len: l.prefix.Len}, Value: l.value}
	copy(e.Prefix.Addr[:], l.prefix.Addr[:])
	return e
}

func entry6(l leaf) api.Entry6 {
	return api.Entry6{Prefix: l.prefix, Value: l.value}
}
