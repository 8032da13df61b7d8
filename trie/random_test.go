package trie_test

import (
	"fmt"
	"math/rand/v2"
	"slices"
	"strings"
	"testing"

	"ferryman/api"
	"ferryman/trie"
)

// pick is a prefix: any one, one of few (so that it is met again), or one near an entry that is there.
func pick(r *rand.Rand, m *plain, k kind) string {
	l := *k.plain(m)
	switch {
	case r.IntN(3) == 0:
		return some(r, 3) + pad(k, "", "01")[:r.IntN(k.width-2)]
	case r.IntN(4) == 0 || len(l) == 0:
		return some(r, r.IntN(k.width+1))
	}
	p := l[r.IntN(len(l))].bits
	switch r.IntN(4) {
	case 0:
		return p[:r.IntN(len(p)+1)]
	case 1:
		return p + some(r, r.IntN(k.width-len(p)+1))
	case 2:
		if len(p) > 0 {
			i := r.IntN(len(p))
			return p[:i] + string('0'+'1'-p[i]) + p[i+1:]
		}
	}
	return p
}

// Random runs of calls, held against the lists (P12.1 to P12.5).
func TestRandomRuns(t *testing.T) {
	r := dice()
	seen := map[string]int{}
	for range 300 {
		limit := []int{0, 1, 2, 5, 12, 40, 65536}[r.IntN(7)]
		x, m := both(t, limit)
		for range 120 {
			k := kinds()[r.IntN(2)]
			p := pick(r, m, k)
			switch r.IntN(5) {
			case 0, 1, 2:
				was, e := holdPut(t, x, m, k, p, int(r.Uint64()))
				if was {
					seen["again"]++
				} else if e == api.ErrMany {
					seen["many"]++
				} else {
					seen["put"]++
				}
			case 3:
				if holdDel(t, x, m, k, p) == api.OK {
					seen["gone"]++
				} else {
					seen["none"]++
				}
			}
			holdPrefix(t, x, m, k, p)
			holdPrefix(t, x, m, k, pick(r, m, k))
			holdTable(t, x, m)
		}
	}
	for _, what := range []string{"again", "many", "put", "gone", "none"} {
		if seen[what] < 500 {
			t.Error(seen)
		}
	}
}

// Every set of entries of a few prefixes, held against the lists at all of them and at those below.
func TestEverySet(t *testing.T) {
	all := []string{"", "0", "1", "00", "01", "10", "11", "000", "001", "111"}
	for set := range 1 << len(all) {
		for _, k := range kinds() {
			x, m := both(t, 20)
			for i, p := range all {
				if set>>i&1 == 1 {
					holdPut(t, x, m, k, p, i)
				}
			}
			holdTable(t, x, m)
			for _, p := range few("", 3) {
				holdPrefix(t, x, m, k, p)
			}
		}
	}
}

// orders hands on every order of the numbers below n.
func orders(n int, take func([]int)) {
	l := make([]int, n)
	for i := range l {
		l[i] = i
	}
	var from func(int)
	from = func(i int) {
		if i == n {
			take(l)
			return
		}
		for j := i; j < n; j++ {
			l[i], l[j] = l[j], l[i]
			from(i + 1)
			l[i], l[j] = l[j], l[i]
		}
	}
	from(0)
}

// P12.6: the same entries in every order, also with others that came and went between them, and with values that were others first.
func TestEveryOrder(t *testing.T) {
	long := "001000000000000100001101101110"
	for _, l := range [][]string{
		{"", "0", "1", "00", "01", "011"},
		{"0", "00", "000", "0000", "00000", "000001"},
		{"1", "1010", "1011", "10101", "10100", "0"},
		{long, long + "0", long + "10", long + "11", long[:20], "1" + long},
	} {
		probes := append(few("", 3), few(long, 2)[18:]...)
		want := ""
		n := 0
		orders(len(l), func(order []int) {
			x, _ := trie.New(2*len(l) + 1)
			for step, i := range order {
				x.Put4(prefix4("1110"), -1)
				x.Put6(prefix6(l[i]), i)
				x.Put4(prefix4(l[i]), i-n%2)
				if step%2 == 0 {
					x.Del4(prefix4("1110"))
				}
				x.Put4(prefix4(l[i]), i)
			}
			x.Del4(prefix4("1110"))
			got := told(x, probes, probes)
			if want == "" {
				want = got
			}
			alike(t, fmt.Sprint(l, order), got, want)
			n++
		})
		if n != 720 {
			t.Error(n)
		}
	}
}

// P12.6: the entries go in every order, too, and what is left is told as if they had never come.
func TestEveryOrderOut(t *testing.T) {
	l := []string{"", "0", "00", "01", "011", "1"}
	for _, k := range kinds() {
		orders(len(l), func(order []int) {
			x, m := both(t, len(l))
			for i, p := range l {
				holdPut(t, x, m, k, p, i)
			}
			for _, i := range order {
				if e := holdDel(t, x, m, k, l[i]); e != api.OK {
					t.Fatal(order, e)
				}
				holdTable(t, x, m)
				for _, p := range l {
					holdPrefix(t, x, m, k, p)
				}
			}
		})
	}
}

// P12.7: a Put of a new prefix and a Del of it, of random tables: all is as before, and there is as much room.
func TestDeleted(t *testing.T) {
	r := dice()
	probes := few("", 5)
	for range 150 {
		x, m := both(t, 1+r.IntN(12))
		for range r.IntN(13) {
			k := kinds()[r.IntN(2)]
			holdPut(t, x, m, k, some(r, r.IntN(5)), r.IntN(9))
		}
		before := told(x, probes, probes)
		for _, p := range probes {
			for _, k := range kinds() {
				if _, is, _ := k.get(x, p); is {
					continue
				}
				_, e := k.put(x, p, 99)
				if full := x.Len() == m.limit && e == api.ErrMany; !full && e != api.OK {
					t.Fatal(p, e)
				}
				want := api.OK
				if e == api.ErrMany {
					want = api.ErrKey
				}
				if e := k.del(x, p); e != want {
					t.Fatal(p, e)
				}
			}
		}
		alike(t, "behind Put and Del", told(x, probes, probes), before)
	}
}

// A table of the greatest limit, full of both kinds; one more is refused; long runs of Put and Del on it go on.
func TestGreatest(t *testing.T) {
	r := dice()
	x, e := trie.New(65536)
	if e != api.OK {
		t.Fatal(e)
	}
	have := map[api.Prefix4]int{}
	var l []api.Prefix4
	for len(have) < 32768 {
		p := prefix4(some(r, 8+r.IntN(25)))
		_, is := have[p]
		if !is {
			l = append(l, p)
		}
		have[p] = len(l)
		if was, e := x.Put4(p, len(l)); was != is || e != api.OK {
			t.Fatal(p, was, e)
		}
	}
	for i := range 32768 {
		p := prefix6(strings.Repeat("01", 50) + some(r, 13) + letters([]byte{byte(i >> 8), byte(i)})[1:])
		if was, e := x.Put6(p, i); was || e != api.OK {
			t.Fatal(i, was, e)
		}
	}
	if x.Len() != 65536 || len(x.All4()) != 32768 || len(x.All6()) != 32768 {
		t.Fatal(x.Len())
	}
	for i := range 40000 {
		p, q := l[r.IntN(len(l))], prefix4(some(r, 8+r.IntN(25)))
		if _, is := have[q]; !is {
			if was, e := x.Put4(q, i); was || e != api.ErrMany {
				t.Fatal(q, was, e)
			}
		}
		if e := x.Del4(p); e != api.OK {
			t.Fatal(p, e)
		}
		if was, e := x.Put4(p, i); was || e != api.OK {
			t.Fatal(p, was, e)
		}
		have[p] = i
		holdBestOfMany(t, x, have, letters(q.Addr[:]))
	}
	got := x.All4()
	if len(got) != len(have) || !slices.IsSortedFunc(got, func(a, b api.Entry4) int {
		if c := slices.Compare(a.Prefix.Addr[:], b.Prefix.Addr[:]); c != 0 {
			return c
		}
		return a.Prefix.Len - b.Prefix.Len
	}) {
		t.Error("not all, or not in order")
	}
	for _, e := range got {
		if v, is := have[e.Prefix]; !is || v != e.Value {
			t.Fatal(e, v, is)
		}
	}
}

// holdBestOfMany asks for an address's beginnings from the longest on.
func holdBestOfMany(t *testing.T, x *trie.Table, have map[api.Prefix4]int, a string) {
	t.Helper()
	b, has := x.Best4(addr4(a))
	for n := 32; n >= 0; n-- {
		if v, is := have[prefix4(a[:n])]; is {
			if want := (api.Entry4{Prefix: prefix4(a[:n]), Value: v}); !has || b != want {
				t.Fatalf("%s: %v, %v; want %v", a, b, has, want)
			}
			return
		}
	}
	if has || b != (api.Entry4{}) {
		t.Fatalf("%s: %v, %v", a, b, has)
	}
}
