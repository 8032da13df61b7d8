package pathmtu_test

import (
	"slices"
	"testing"

	"ferryman/api"
	"ferryman/pathmtu"
)

// Rule 4: an answer is its holder's: whoever writes to it changes nothing that is kept, nor another answer.
func TestMemory(t *testing.T) {
	b := newBoth(t, 20, 100)
	for i := range 20 {
		wantTold(b, i/3, path(i*7%20), 1400+i, true)
		first, _ := b.all(i / 3)
		second, _ := b.all(i / 3)
		was := slices.Clone(second)
		first = first[:cap(first)]
		for k := range first {
			first[k] = api.PathEntry{Dst: path(999), MTU: 1, Until: 2}
		}
		if !slices.Equal(second, was) {
			t.Fatal("one answer's list is another's")
		}
		wantAll(b, i/3, was...)
	}
	l, _ := b.all(6)
	was := slices.Clone(l)
	wantTold(b, 7, path(3), 1280, true)
	wantDrop(b, 7, path(4), true)
	wantGet(b, 105, path(5), 1500)
	if !slices.Equal(l, was) {
		t.Error("an answer changed behind later calls")
	}
}

// Rule 5: two caches know nothing of one another.
func TestTwoCaches(t *testing.T) {
	a, b := newBoth(t, 1, 10), newBoth(t, 1, 20)
	wantTold(a, 50, path(1), 1400, true)
	wantThere(b, 0, 0)
	wantTold(b, 7, path(1), 1450, true)
	wantTold(b, 8, path(2), 1450, true)
	wantThere(a, 1, 60)
	wantThere(b, 1, 28)
	wantGet(a, 50, path(1), 1400)
	wantDrop(a, 50, path(1), true)
	wantGet(b, 27, path(2), 1450)
}

// The document says nothing of a cache that is copied: the copy is that cache.
func TestCopy(t *testing.T) {
	b := newBoth(t, 2, 10)
	other := *b.c
	c := both{t, &other, b.m}
	wantTold(b, 0, path(1), 1400, true)
	wantTold(c, 5, path(2), 1400, true)
	if _, e := b.get(4, path(1)); e != 153 {
		t.Errorf("%d", e)
	}
	wantTold(b, 5, path(3), 1400, true)
	wantPaths(c, 5, 2, 3)
	wantGet(c, 15, path(3), 1500)
	wantThere(b, 0, 0)
}

// Rule 5: the same calls of two caches tell the same, however many entries there are.
func TestAgain(t *testing.T) {
	for range 3 {
		var runs [2][]api.PathEntry
		for i := range runs {
			r := dice()
			c, _ := pathmtu.New(api.PathConf{Limit: 50, Link: 1500, Life: 100, Least: 1280})
			for now := range 2000 {
				c.Told(now/40, path(r.IntN(300)), 1280+r.IntN(220))
				l, _ := c.All(now / 40)
				runs[i] = append(runs[i], l...)
			}
		}
		if !slices.Equal(runs[0], runs[1]) {
			t.Error("two runs are not the same")
		}
	}
}
