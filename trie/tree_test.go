package trie

import (
	"math/rand/v2"
	"testing"

	"ferryman/addr"
	"ferryman/api"
)

// sound asks of a tree that each fork has two kids or more, each at its place below it, and counts its entries.
func sound(t *testing.T, n node) int {
	t.Helper()
	f, is := n.(fork)
	if !is {
		return 1
	}
	kids, entries := 0, 0
	for i, kid := range f.kids {
		if kid == nil {
			continue
		}
		if in, e := addr.Cover6(f.prefix, kid.top()); !in || e != api.OK || f.side(kid.top()) != i {
			t.Fatalf("%v has %v at %d", f.prefix, kid.top(), i)
		}
		kids++
		entries += sound(t, kid)
	}
	if kids < 2 {
		t.Fatalf("%v has %d kids", f.prefix, kids)
	}
	return entries
}

// What is kept is no more than the entries need: P12.6 and P12.7 hold of the trees themselves, which are alike of the same entries, however they came.
func TestOneTree(t *testing.T) {
	r := rand.New(rand.NewPCG(12, 8))
	for range 300 {
		x, e := New(65536)
		if e != api.OK {
			t.Fatal(e)
		}
		have := map[api.Prefix6]int{}
		for range r.IntN(200) {
			var a api.Addr6
			a[0], a[1], a[15] = byte(r.IntN(256)), byte(r.IntN(4)), byte(r.IntN(2))
			p, _ := addr.Cut6(a, []int{r.IntN(9), r.IntN(17), 128}[r.IntN(3)])
			if r.IntN(3) == 0 {
				x.Del6(p)
				delete(have, p)
			} else {
				have[p] = r.IntN(3)
				x.Put6(p, have[p])
			}
		}
		if x.six != nil && sound(t, x.six) != len(have) || x.count != len(have) {
			t.Fatal(x.count, len(have))
		}
		y, _ := New(65536)
		for p, v := range have {
			y.Put6(p, v)
		}
		if x.six != y.six {
			t.Fatal("two trees of the same entries")
		}
		for p := range have {
			x.Del6(p)
		}
		if *x != (Table{made: true, limit: 65536}) {
			t.Fatal("something is left of an empty table")
		}
	}
}
