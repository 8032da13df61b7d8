package split_test

import (
	"bytes"
	"testing"

	"ferryman/api"
	"ferryman/split"
)

// spoil writes to all that a list has room for.
func spoil(b []byte) {
	b = b[:cap(b)]
	for i := range b {
		b[i] ^= 0xff
	}
}

// lent is a copy of bytes with room behind it, so that one who appends is seen, and a function that tells whether all of it is as it was.
func lent(b []byte) ([]byte, func() bool) {
	store := append(bytes.Clone(b), 1, 2, 3, 4, 5, 6, 7, 8)
	was := bytes.Clone(store)
	return store[:len(b)], func() bool { return bytes.Equal(store, was) }
}

// Rule 4: what is handed in stays as it is, and is not kept: the answer stays when its owner changes it.
func TestHandedIn(t *testing.T) {
	r := dice()
	for range 400 {
		v := someDatagram(r, 300)
		v.DF = false
		for _, mtu := range []int{68, 90, 65535, 67} {
			want, wantE := plainSplit(v, mtu)
			given := v
			options, sameOptions := lent(v.Options)
			body, sameBody := lent(v.Body)
			given.Options, given.Body = options, body
			l, e := split.Split(given, mtu)
			split.Count(given, mtu)
			split.Fits(given, mtu)
			if !sameOptions() || !sameBody() {
				t.Fatalf("%s, MTU %d: what was handed in changed", show(v), mtu)
			}
			spoil(options)
			spoil(body)
			if e != wantE || !allLike(l, want) {
				t.Fatalf("%s, MTU %d: the answer changed: %s, %d", show(v), mtu, shape(l), e)
			}
		}
	}
}

// Rule 4: each list of an answer is new memory: who changes one changes no other, nor what was handed in.
func TestAnswersAreApart(t *testing.T) {
	r := dice()
	for range 400 {
		v := someDatagram(r, 300)
		v.DF = false
		for _, mtu := range []int{68, 90, 65535} {
			want, e := plainSplit(v, mtu)
			if e != api.OK {
				continue
			}
			given := v
			options, sameOptions := lent(v.Options)
			body, sameBody := lent(v.Body)
			given.Options, given.Body = options, body
			l, _ := split.Split(given, mtu)
			m, _ := split.Split(given, mtu)
			for i := range l {
				spoil(l[i].Options)
				if !bytes.Equal(l[i].Body, want[i].Body) || !allLike(l[i+1:], want[i+1:]) {
					t.Fatalf("%s, MTU %d: the Options of %d are not its own", show(v), mtu, i)
				}
				spoil(l[i].Body)
				if !allLike(l[i+1:], want[i+1:]) {
					t.Fatalf("%s, MTU %d: the Body of %d is not its own", show(v), mtu, i)
				}
			}
			clear(l[:cap(l)])
			if !sameOptions() || !sameBody() || !allLike(m, want) {
				t.Fatalf("%s, MTU %d: with an answer something else changed", show(v), mtu)
			}
		}
	}
}

// Rule 4: Copied neither changes nor keeps its bytes, even where all of them are copied.
func TestCopiedMemory(t *testing.T) {
	r := dice()
	for i := range 2000 {
		was := someOptions(r, r.IntN(44))
		if i%3 == 0 {
			was = append([]byte{0x83, byte(2 + i%38)}, someBytes(r, i%38)...)
		}
		want := plainCopied(was)
		options, same := lent(was)
		b, c := split.Copied(options), split.Copied(options)
		spoil(b)
		if !same() || !bytes.Equal(c, want) {
			t.Fatalf("% x: with the answer something else changed", was)
		}
		spoil(options)
		if !bytes.Equal(c, want) {
			t.Fatalf("% x: the answer changed: % x; want % x", was, c, want)
		}
	}
}

// Rule 4: nil and empty lists are the same.
func TestNilAndEmpty(t *testing.T) {
	for _, options := range [][]byte{nil, {}} {
		for _, body := range [][]byte{nil, {}} {
			for _, mtu := range []int{68, 65535, 67} {
				hold(t, api.V4{TTL: 3, Options: options, Body: body}, mtu)
			}
		}
		hold(t, api.V4{Options: options, Body: make([]byte, 100)}, 68)
		if b := split.Copied(options); len(b) != 0 {
			t.Errorf("% x", b)
		}
	}
}

// Rule 5: nothing is kept: whatever went ahead, the same is answered.
func TestNothingIsKept(t *testing.T) {
	r := dice()
	v := someV4(r, 12, 200)
	v.Off, v.MF = 0, false
	for range 200 {
		split.Split(someDatagram(r, 300), 50+r.IntN(100))
		split.Count(someDatagram(r, 300), 50+r.IntN(100))
		split.Copied(someOptions(r, 40))
		hold(t, v, 68)
	}
}
