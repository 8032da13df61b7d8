package trie_test

import (
	"fmt"
	"math/rand/v2"
	"slices"
	"strings"
	"testing"

	"ferryman/api"
	"ferryman/trie"
)

func dice() *rand.Rand { return rand.New(rand.NewPCG(12, 7)) }

// item is an entry, made apart from the program: its prefix's bits as letters.
type item struct {
	bits  string
	value int
}

func fill(b []byte, bits string) {
	for i, c := range bits {
		if c == '1' {
			b[i/8] |= 128 >> (i % 8)
		}
	}
}

func letters(b []byte) string {
	var s strings.Builder
	for _, x := range b {
		fmt.Fprintf(&s, "%08b", x)
	}
	return s.String()
}

func addr4(bits string) (a api.Addr4) {
	fill(a[:], bits)
	return a
}

func addr6(bits string) (a api.Addr6) {
	fill(a[:], bits)
	return a
}

func prefix4(bits string) api.Prefix4 { return api.Prefix4{Addr: addr4(bits), Len: len(bits)} }

func prefix6(bits string) api.Prefix6 { return api.Prefix6{Addr: addr6(bits), Len: len(bits)} }

// item4 is an entry that the program told; what is behind its Len shows as more letters than Len.
func item4(e api.Entry4) item {
	all := letters(e.Prefix.Addr[:])
	if n := e.Prefix.Len; n >= 0 && n <= 32 && !strings.Contains(all[n:], "1") {
		all = all[:n]
	}
	return item{all, e.Value}
}

func item6(e api.Entry6) item {
	all := letters(e.Prefix.Addr[:])
	if n := e.Prefix.Len; n >= 0 && n <= 128 && !strings.Contains(all[n:], "1") {
		all = all[:n]
	}
	return item{all, e.Value}
}

func items4(l []api.Entry4) (out []item) {
	for _, e := range l {
		out = append(out, item4(e))
	}
	return out
}

func items6(l []api.Entry6) (out []item) {
	for _, e := range l {
		out = append(out, item6(e))
	}
	return out
}

// kind is one of the two kinds of prefixes, and the calls for it by letters.
type kind struct {
	name  string
	width int
	put   func(x *trie.Table, bits string, value int) (bool, api.Errno)
	get   func(x *trie.Table, bits string) (int, bool, api.Errno)
	del   func(x *trie.Table, bits string) api.Errno
	best  func(x *trie.Table, a string) (item, bool)
	all   func(x *trie.Table) []item
	plain func(m *plain) *[]item
}

func kinds() []kind { return []kind{four(), six()} }

func four() kind {
	return kind{
		name: "4", width: 32,
		put:   func(x *trie.Table, bits string, v int) (bool, api.Errno) { return x.Put4(prefix4(bits), v) },
		get:   func(x *trie.Table, bits string) (int, bool, api.Errno) { return x.Get4(prefix4(bits)) },
		del:   func(x *trie.Table, bits string) api.Errno { return x.Del4(prefix4(bits)) },
		all:   func(x *trie.Table) []item { return items4(x.All4()) },
		plain: func(m *plain) *[]item { return &m.four },
		best: func(x *trie.Table, a string) (item, bool) {
			e, ok := x.Best4(addr4(a))
			return item4(e), ok
		},
	}
}

func six() kind {
	return kind{
		name: "6", width: 128,
		put:   func(x *trie.Table, bits string, v int) (bool, api.Errno) { return x.Put6(prefix6(bits), v) },
		get:   func(x *trie.Table, bits string) (int, bool, api.Errno) { return x.Get6(prefix6(bits)) },
		del:   func(x *trie.Table, bits string) api.Errno { return x.Del6(prefix6(bits)) },
		all:   func(x *trie.Table) []item { return items6(x.All6()) },
		plain: func(m *plain) *[]item { return &m.six },
		best: func(x *trie.Table, a string) (item, bool) {
			e, ok := x.Best6(addr6(a))
			return item6(e), ok
		},
	}
}

// plain is a table as two lists of entries in no order.
type plain struct {
	limit     int
	four, six []item
}

func (m *plain) put(k kind, bits string, value int) (bool, api.Errno) {
	l := k.plain(m)
	for i := range *l {
		if (*l)[i].bits == bits {
			(*l)[i].value = value
			return true, api.OK
		}
	}
	if len(m.four)+len(m.six) >= m.limit {
		return false, api.ErrMany
	}
	*l = append(*l, item{bits, value})
	return false, api.OK
}

func (m *plain) get(k kind, bits string) (int, bool) {
	for _, x := range *k.plain(m) {
		if x.bits == bits {
			return x.value, true
		}
	}
	return 0, false
}

func (m *plain) del(k kind, bits string) api.Errno {
	l := k.plain(m)
	n := len(*l)
	*l = slices.DeleteFunc(*l, func(x item) bool { return x.bits == bits })
	if len(*l) == n {
		return api.ErrKey
	}
	return api.OK
}

// list is the entries of a kind that are asked for, by their addresses, of alike ones the shorter ahead.
func (m *plain) list(k kind, ask func(bits string) bool) []item {
	var out []item
	for _, x := range *k.plain(m) {
		if ask(x.bits) {
			out = append(out, x)
		}
	}
	slices.SortFunc(out, func(a, b item) int {
		whole := strings.Repeat("0", k.width)
		if c := strings.Compare(a.bits+whole[len(a.bits):], b.bits+whole[len(b.bits):]); c != 0 {
			return c
		}
		return len(a.bits) - len(b.bits)
	})
	return out
}

func (m *plain) all(k kind) []item { return m.list(k, func(string) bool { return true }) }

func (m *plain) under(k kind, p string) []item {
	return m.list(k, func(bits string) bool { return strings.HasPrefix(bits, p) })
}

func (m *plain) over(k kind, p string) []item {
	return m.list(k, func(bits string) bool { return strings.HasPrefix(p, bits) })
}

// best is the longest entry whose letters begin an address's.
func (m *plain) best(k kind, a string) (item, bool) {
	var out item
	found := false
	for _, x := range *k.plain(m) {
		if strings.HasPrefix(a, x.bits) && (!found || len(x.bits) > len(out.bits)) {
			out, found = x, true
		}
	}
	return out, found
}

// pad is an address that a prefix has: all 0 or all 1 behind it.
func pad(k kind, bits, with string) string {
	return bits + strings.Repeat(with, k.width-len(bits))
}

// holdTable holds what a table tells of all of it against the lists.
func holdTable(t *testing.T, x *trie.Table, m *plain) {
	t.Helper()
	if n := x.Len(); n != len(m.four)+len(m.six) {
		t.Fatalf("Len: %d; want %d", n, len(m.four)+len(m.six))
	}
	for _, k := range kinds() {
		if got, want := k.all(x), m.all(k); !slices.Equal(got, want) {
			t.Fatalf("All%s: %v; want %v", k.name, got, want)
		}
	}
}

// holdPrefix holds what a table tells of a prefix, and of the addresses at its ends, against the lists.
func holdPrefix(t *testing.T, x *trie.Table, m *plain, k kind, p string) {
	t.Helper()
	v, is, e := k.get(x, p)
	if want, wantIs := m.get(k, p); v != want || is != wantIs || e != api.OK {
		t.Fatalf("Get%s of %q: %d, %v, %d; want %d, %v", k.name, p, v, is, e, want, wantIs)
	}
	for _, with := range []string{"0", "1"} {
		a := pad(k, p, with)
		got, has := k.best(x, a)
		if want, wantHas := m.best(k, a); got != want || has != wantHas {
			t.Fatalf("Best%s of %q: %v, %v; want %v, %v", k.name, a, got, has, want, wantHas)
		}
	}
	if k.width != 32 {
		return
	}
	l, e := x.Under4(prefix4(p))
	if got, want := items4(l), m.under(k, p); !slices.Equal(got, want) || e != api.OK {
		t.Fatalf("Under4 of %q: %v, %d; want %v", p, got, e, want)
	}
	l, e = x.Over4(prefix4(p))
	if got, want := items4(l), m.over(k, p); !slices.Equal(got, want) || e != api.OK {
		t.Fatalf("Over4 of %q: %v, %d; want %v", p, got, e, want)
	}
}

// holdPut does a Put to both.
func holdPut(t *testing.T, x *trie.Table, m *plain, k kind, p string, value int) (bool, api.Errno) {
	t.Helper()
	was, e := k.put(x, p, value)
	if want, wantE := m.put(k, p, value); was != want || e != wantE {
		t.Fatalf("Put%s of %q: %v, %d; want %v, %d", k.name, p, was, e, want, wantE)
	}
	return was, e
}

// holdDel does a Del to both.
func holdDel(t *testing.T, x *trie.Table, m *plain, k kind, p string) api.Errno {
	t.Helper()
	e := k.del(x, p)
	if want := m.del(k, p); e != want {
		t.Fatalf("Del%s of %q: %d; want %d", k.name, p, e, want)
	}
	return e
}

// both is an empty table and its lists.
func both(t *testing.T, limit int) (*trie.Table, *plain) {
	t.Helper()
	x, e := trie.New(limit)
	if e != api.OK || x == nil {
		t.Fatalf("New of %d: %v, %d", limit, x, e)
	}
	return x, &plain{limit: limit}
}

// few are all prefixes with up to n letters behind those of a stem, and the stem's own beginnings.
func few(stem string, n int) []string {
	var out []string
	for i := range len(stem) {
		out = append(out, stem[:i])
	}
	level := []string{stem}
	for range n + 1 {
		out = append(out, level...)
		var next []string
		for _, s := range level {
			next = append(next, s+"0", s+"1")
		}
		level = next
	}
	return out
}

// some is a run of n random letters.
func some(r *rand.Rand, n int) string {
	b := make([]byte, n)
	for i := range b {
		b[i] = '0' + byte(r.IntN(2))
	}
	return string(b)
}
