package addr

import "ferryman/api"

// grouped is an IPv6 address's text, as far as it was taken.
type grouped struct {
	ended  []byte // the groups behind which a colon stood, two bytes each
	open   string // the digits of the group that goes on
	value  uint16 // of those digits
	colons int    // that stand right ahead
	gapped bool   // `::` stood there
	gap    int    // how many of ended stand ahead of it
	dots   bool   // the end is an IPv4 address's text: tail
	tail   dotted
}

func (g *grouped) take(r rune) bool {
	switch {
	case g.dots:
		return g.tail.take(r)
	case r == ':' && g.open == "":
		return g.takeSecondColon()
	case r == ':':
		return g.takeColon()
	case r == '.':
		return g.takeDot()
	}
	return g.takeDigit(r)
}

// room is how many bytes groups written out may still fill; `::` stands in place of one group at least.
func (g *grouped) room() int {
	if g.gapped {
		return 14 - len(g.ended)
	}
	return 16 - len(g.ended)
}

// takeColon ends a group. Something must follow: a group, or the colon that makes it `::`, which takes a group's place too.
func (g *grouped) takeColon() bool {
	if g.room() <= 2 {
		return false
	}
	g.ended = append(g.ended, byte(g.value>>8), byte(g.value))
	g.open, g.value, g.colons = "", 0, 1
	return true
}

// takeSecondColon takes a colon behind no digit: `::`, but at the beginning, where the first one of `::` has none ahead either.
func (g *grouped) takeSecondColon() bool {
	switch {
	case g.gapped:
		return false
	case g.colons == 0:
		g.colons = 1
	default:
		g.colons, g.gapped, g.gap = 2, true, len(g.ended)
	}
	return true
}

func (g *grouped) takeDigit(r rune) bool {
	digit, ok := hex(r)
	lone := g.colons == 1 && len(g.ended) == 0 && !g.gapped // a colon at the beginning is half of `::`
	if !ok || lone || g.room() == 0 || len(g.open) == 4 {
		return false
	}
	g.open, g.value, g.colons = g.open+string(r), g.value<<4|digit, 0
	return true
}

// takeDot finds that what went for a group is an IPv4 address's first number, and takes it again as that.
func (g *grouped) takeDot() bool {
	// Ahead of the last two groups stand all others, or `::` for them.
	if g.room() < 4 || !g.gapped && g.room() > 4 {
		return false
	}
	for _, r := range g.open {
		if !g.tail.take(r) {
			return false
		}
	}
	g.dots = true
	return g.tail.take('.')
}

func (g *grouped) whole() bool {
	switch {
	case g.dots:
		return g.tail.whole()
	case g.gapped:
		return g.open != "" || g.colons == 2
	}
	return g.open != "" && g.room() == 2
}

func (g *grouped) addr() api.Addr6 {
	given := append([]byte{}, g.ended...)
	if g.dots {
		tail := g.tail.addr()
		given = append(given, tail[:]...)
	} else if g.open != "" {
		given = append(given, byte(g.value>>8), byte(g.value))
	}
	var a api.Addr6
	if !g.gapped {
		copy(a[:], given)
		return a
	}
	copy(a[:], given[:g.gap])
	behind := given[g.gap:]
	copy(a[len(a)-len(behind):], behind)
	return a
}

// hex is what a hex digit of either case counts.
func hex(r rune) (uint16, bool) {
	switch {
	case r >= '0' && r <= '9':
		return uint16(r - '0'), true
	case r >= 'a' && r <= 'f':
		return uint16(r - 'a' + 10), true
	case r >= 'A' && r <= 'F':
		return uint16(r - 'A' + 10), true
	}
	return 0, false
}
