package segment

import (
	"bytes"

	"ferryman/api"
)

// Kinds of options.
const (
	kindEnd  = 0
	kindNone = 1 // one byte that says nothing
	kindMSS  = 2
)

const (
	optionHead = 2                     // bytes of an option: its kind, and how many it has in all
	mssSize    = optionHead + wordSize // bytes of an option that tells a maximum segment size
)

// options are those that are left of a segment's.
type options struct{ rest }

// mssPlace is the bytes of Options that hold a segment's maximum segment size, not a copy of them; nil: it has none.
func mssPlace(t api.TCP) []byte {
	if t.Flags&api.FlagSYN == 0 {
		return nil
	}
	o := options{rest{left: t.Options}}
	for len(o.left) > 0 {
		switch o.left[0] {
		case kindEnd:
			return nil
		case kindNone:
			o.run(1)
		case kindMSS:
			if o.size() == mssSize {
				return o.run(mssSize)[optionHead:]
			}
			// One of another size tells nothing, and is passed as those of other kinds are.
			fallthrough
		default:
			n := o.size()
			if n == 0 {
				return nil
			}
			o.run(n)
		}
	}
	return nil
}

// size is how many bytes the first option has that is of more than one byte; 0: it is none.
func (o *options) size() int {
	if len(o.left) < optionHead {
		return 0
	}
	n := int(o.left[1])
	if n < optionHead || n > len(o.left) {
		return 0
	}
	return n
}

// MSS is a segment's maximum segment size; false: it has none.
func MSS(t api.TCP) (int, bool) {
	place := mssPlace(t)
	if place == nil {
		return 0, false
	}
	return int(wordOf(place)), true
}

// Clamp is a segment with a maximum segment size that is not above most, and whether it was.
func Clamp(t api.TCP, most int) (api.TCP, bool) {
	t.Options, t.Data = bytes.Clone(t.Options), bytes.Clone(t.Data)
	place := mssPlace(t)
	if place == nil || int(wordOf(place)) <= most {
		return t, false
	}
	putWord(place, uint16(max(most, 0)))
	return t, true
}
