package rules

import (
	"strconv"
	"strings"

	"ferryman/addr"
	"ferryman/api"
)

const heads = 2 // lines ahead of the rules'

var modes = [...]string{api.MapE: "map-e", api.MapT: "map-t", api.Xlat: "464xlat"}

// reader is how far a text is read.
type reader struct {
	set   api.RuleSet
	lines int   // that counted
	at    []int // the lines of the rules
}

// read is a text's rule set; a fault gives up.
func read(text string) api.RuleSet {
	if len(text) > api.MaxText {
		panic(fault{why: api.ErrLong})
	}
	var r reader
	eachLine(text, r.take)
	if r.lines < heads {
		panic(fault{why: api.ErrLine})
	}
	i, e := Check(r.set)
	switch {
	case e == api.OK:
		return r.set
	case i == nobody:
		panic(fault{why: e})
	}
	panic(fault{r.at[i], 1, e})
}

// take reads a line that counts.
func (r *reader) take(l line) {
	switch {
	case r.lines == 0:
		r.set.Mode = readMode(&l)
	case r.set.Mode == api.MapE && r.lines == 1:
		l.must("relay")
		r.set.Relay = thing(&l, addr.Parse6)
	case r.lines == 1:
		l.must("prefix")
		r.set.Prefix = thing(&l, addr.Prefix6)
	default:
		r.set.Rules = append(r.set.Rules, readRule(&l))
		r.at = append(r.at, l.number)
	}
	l.end()
	r.lines++
}

func readMode(l *line) api.Mode {
	l.must("mode")
	w := l.next()
	for m, name := range modes {
		if w.text == name {
			return api.Mode(m)
		}
	}
	l.refuse(w, api.ErrLine)
	return 0
}

func readRule(l *line) api.Rule {
	var r api.Rule
	l.must("rule")
	r.V6 = thing(l, addr.Prefix6)
	r.V4 = thing(l, addr.Prefix4)
	l.must("ea")
	r.EA = l.count()
	l.must("offset")
	r.Offset = l.count()
	r.FMR = l.may("fmr")
	return r
}

// write is the text of a rule set that may be.
func write(s api.RuleSet) string {
	var b strings.Builder
	b.WriteString("mode " + modes[s.Mode] + "\n")
	if s.Mode == api.MapE {
		b.WriteString("relay " + addr.Text6(s.Relay) + "\n")
	} else {
		prefix, _ := addr.Say6(s.Prefix)
		b.WriteString("prefix " + prefix + "\n")
	}
	for _, r := range s.Rules {
		b.WriteString(ruleText(r) + "\n")
	}
	return b.String()
}

func ruleText(r api.Rule) string {
	v6, _ := addr.Say6(r.V6)
	v4, _ := addr.Say4(r.V4)
	text := "rule " + v6 + " " + v4 + " ea " + strconv.Itoa(r.EA) + " offset " + strconv.Itoa(r.Offset)
	if r.FMR {
		text += " fmr"
	}
	return text
}
