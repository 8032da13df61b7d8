package sum

import (
	"slices"
	"testing"
)

func TestWordsOverSeams(t *testing.T) {
	got := slices.Collect(words([]byte{1}, nil, []byte{2, 3}, []byte{}, []byte{4, 5}))
	if want := []uint16{0x0102, 0x0304, 0x0500}; !slices.Equal(got, want) {
		t.Errorf("words = %x, want %x", got, want)
	}
	if got := slices.Collect(words()); len(got) != 0 {
		t.Errorf("words of nothing = %x", got)
	}
}

// An iterator that goes on behind a break panics: none of these may.
func TestWordsEndAtBreak(t *testing.T) {
	row := []byte{1, 2, 3, 4, 5}
	for stop := range 3 {
		seen := 0
		for range turned(words(row)) {
			if seen == stop {
				break
			}
			seen++
		}
		if seen != stop {
			t.Errorf("broken off behind %d words, want %d", seen, stop)
		}
	}
}

func TestTurned(t *testing.T) {
	got := slices.Collect(turned(words([]byte{0, 0, 0x12, 0x34, 0xff})))
	if want := []uint16{0xffff, 0xedcb, 0x00ff}; !slices.Equal(got, want) {
		t.Errorf("turned = %x, want %x", got, want)
	}
}
