package splitsix_test

import (
	"bytes"
	"reflect"
	"testing"

	"ferryman/api"
	"ferryman/splitsix"
)

// spoil writes to all that the lists of a datagram have room for.
func spoil(v api.V6) {
	for _, b := range lists(v) {
		b = b[:cap(b)]
		for i := range b {
			b[i] ^= 0xff
		}
	}
	heads := v.Heads[:cap(v.Heads)]
	for i := range heads {
		heads[i] = api.Head{Kind: 99}
	}
}

// lists are all lists of bytes of a datagram.
func lists(v api.V6) [][]byte {
	l := [][]byte{v.Body}
	for _, h := range v.Heads {
		l = append(l, h.Body)
	}
	return l
}

// lent is a copy of a datagram all of whose lists have room behind them, so that one who appends is seen, and a function that tells whether all of it is as it was.
func lent(v api.V6) (api.V6, func() bool) {
	var stores, were [][]byte
	give := func(b []byte) []byte {
		store := append(bytes.Clone(b), 1, 2, 3, 4, 5, 6, 7, 8)
		stores, were = append(stores, store), append(were, bytes.Clone(store))
		return store[:len(b)]
	}
	v.Body = give(v.Body)
	heads := make([]api.Head, 0, len(v.Heads)+2)
	for _, h := range v.Heads {
		heads = append(heads, api.Head{Kind: h.Kind, Body: give(h.Body)})
	}
	was := append([]api.Head{}, heads[:cap(heads)]...)
	v.Heads = heads
	return v, func() bool {
		return reflect.DeepEqual(stores, were) && reflect.DeepEqual(heads[:cap(heads)], was)
	}
}

// Rule 4: what is handed in stays as it is, and is not kept: the answer stays when its owner changes it.
func TestHandedIn(t *testing.T) {
	r := dice()
	for range 300 {
		v := someDatagram(r, 3000)
		for _, mtu := range []int{1280, 1500, 65535, 1279} {
			want, wantE := plainSplit(v, mtu, 7)
			given, same := lent(v)
			l, e := splitsix.Split(given, mtu, 7)
			splitsix.Count(given, mtu)
			splitsix.Fits(given, mtu)
			if !same() {
				t.Fatalf("%s, MTU %d: what was handed in changed", show(v), mtu)
			}
			spoil(given)
			if e != wantE || !allLike(l, want) {
				t.Fatalf("%s, MTU %d: the answer changed: %s, %d", show(v), mtu, shape(l), e)
			}
		}
	}
}

// Rule 4: each list of an answer is new memory: who changes one changes no other, nor what was handed in.
func TestAnswersAreApart(t *testing.T) {
	r := dice()
	many := 0
	for range 300 {
		v := someDatagram(r, 3000)
		for _, mtu := range []int{1280, 1500, 65535} {
			want, e := plainSplit(v, mtu, 7)
			if e != api.OK {
				continue
			}
			given, same := lent(v)
			l, _ := splitsix.Split(given, mtu, 7)
			m, _ := splitsix.Split(given, mtu, 7)
			testListsApart(t, l)
			for i := range l {
				spoil(l[i])
				if !allLike(l[i+1:], want[i+1:]) {
					t.Fatalf("%s, MTU %d: the lists of %d are not its own", show(v), mtu, i)
				}
			}
			clear(l[:cap(l)])
			if !same() || !allLike(m, want) {
				t.Fatalf("%s, MTU %d: with an answer something else changed", show(v), mtu)
			}
			if len(l) > 1 && len(v.Heads) > 1 {
				many++
			}
		}
	}
	if many < 50 {
		t.Errorf("only %d answers of many fragments with many heads", many)
	}
}

// testListsApart changes each list of bytes of an answer in turn, and holds all others against what they were.
func testListsApart(t *testing.T, l []api.V6) {
	t.Helper()
	var all [][]byte
	for _, f := range l {
		all = append(all, lists(f)...)
	}
	for i, b := range all[:min(len(all), 12)] {
		was := bytes.Clone(b)
		before := cloneAll(all)
		for k := range b[:cap(b)] {
			b[:cap(b)][k] ^= 0xff
		}
		for k := range all {
			if k != i && !bytes.Equal(all[k], before[k]) {
				t.Fatalf("list %d changed with list %d", k, i)
			}
		}
		copy(b, was)
	}
}

func cloneAll(l [][]byte) [][]byte {
	out := make([][]byte, len(l))
	for i, b := range l {
		out[i] = bytes.Clone(b)
	}
	return out
}

// Rule 4: Atomic and Bare neither change nor keep their datagram, even where it stays as it is.
func TestHeadsMemory(t *testing.T) {
	r := dice()
	calls := map[string]func(v api.V6) (api.V6, api.Errno){
		"Atomic": func(v api.V6) (api.V6, api.Errno) { return splitsix.Atomic(v, 9) },
		"Bare":   splitsix.Bare,
	}
	plain := map[string]func(v api.V6) (api.V6, api.Errno){
		"Atomic": func(v api.V6) (api.V6, api.Errno) { return plainAtomic(v, 9) },
		"Bare":   plainBare,
	}
	for range 1000 {
		v := someDatagram(r, 300)
		for name, call := range calls {
			want, wantE := plain[name](v)
			given, same := lent(v)
			a, e := call(given)
			b, _ := call(given)
			if !same() || e != wantE {
				t.Fatalf("%s: %s changed what was handed in, or told %d; want %d", show(v), name, e, wantE)
			}
			testListsApart(t, []api.V6{a})
			spoil(a)
			if !same() || !like(b, want) {
				t.Fatalf("%s: with %s's answer something else changed", show(v), name)
			}
			spoil(given)
			if !like(b, want) {
				t.Fatalf("%s: %s's answer changed with what was handed in", show(v), name)
			}
		}
	}
}

// Rule 4: nil and empty lists are the same.
func TestNilAndEmpty(t *testing.T) {
	for _, heads := range [][]api.Head{nil, {}} {
		for _, empty := range [][]byte{nil, {}} {
			for _, mtu := range []int{1280, 65535, 1279} {
				v := api.V6{Hop: 3, Proto: 17, Heads: heads, Body: empty}
				for _, v := range []api.V6{v, fragment(v, 1, 0, false), fragment(v, 1, 2, true)} {
					hold(t, v, mtu, 7)
					holdHeads(t, v, 7)
				}
			}
		}
		testShape(t, api.V6{Proto: 17, Heads: heads, Body: make([]byte, 1300)}, 1280, "0:1232+ 154:68")
	}
}

// Rule 5: nothing is kept: whatever went ahead, the same is answered.
func TestNothingIsKept(t *testing.T) {
	r := dice()
	v := someV6(r, 40, 3000)
	for range 200 {
		splitsix.Split(someWrong(r, someDatagram(r, 3000)), 1270+r.IntN(100), r.Uint32())
		splitsix.Count(someWrong(r, someDatagram(r, 3000)), 1270+r.IntN(100))
		splitsix.Atomic(someDatagram(r, 300), r.Uint32())
		splitsix.Bare(someDatagram(r, 300))
		hold(t, v, 1280, 7)
		holdHeads(t, v, 7)
	}
}
