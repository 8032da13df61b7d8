package split

// Kinds of options.
const (
	kindEnd  = 0
	kindNone = 1   // one byte that says nothing
	kindCopy = 128 // the least one that each fragment has
)

const (
	optionHead = 2 // bytes of an option: its kind, and how many it has in all
	headUnit   = 4 // bytes in which a header's length is told
)

// Copied is what later fragments have of options.
func Copied(options []byte) []byte {
	var all []byte
	for n := first(options); n > 0; n = first(options) {
		if options[0] >= kindCopy {
			all = append(all, options[:n]...)
		}
		options = options[n:]
	}
	for len(all)%headUnit != 0 {
		all = append(all, kindEnd)
	}
	return all
}

// first is how many bytes the first one of options has; 0: they end there.
func first(options []byte) int {
	if len(options) == 0 {
		return 0
	}
	switch options[0] {
	case kindEnd:
		return 0
	case kindNone:
		return 1
	}
	if len(options) < optionHead {
		return 0
	}
	n := int(options[1])
	if n < optionHead || n > len(options) {
		return 0
	}
	return n
}
