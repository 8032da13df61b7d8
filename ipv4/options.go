package ipv4

import (
	"bytes"

	"ferryman/api"
)

// Kinds of options.
const (
	kindEnd    = 0
	kindNone   = 1 // one byte that says nothing
	kindLoose  = 131
	kindStrict = 137
)

const (
	optionHead = 2 // bytes of an option: its kind, and how many it has in all
	mostData   = mostOptions - optionHead
)

// list is the bytes of options that are left of so many.
type list struct {
	rest
	size int
}

func listed(b []byte) *list { return &list{rest{left: b}, len(b)} }

// next reads the next option that is not of one byte alone; false: there is none.
func (l *list) next() (api.Option, bool) {
	for len(l.left) > 0 {
		switch l.left[0] {
		case kindEnd:
			return api.Option{}, false
		case kindNone:
			l.octet()
		default:
			return l.option(), true
		}
	}
	return api.Option{}, false
}

// option reads an option whose Data is not yet a copy.
func (l *list) option() api.Option {
	at := l.size - len(l.left)
	must(len(l.left) >= optionHead, at, api.ErrOption)
	kind := l.octet()
	n := int(l.octet()) - optionHead
	must(n >= 0 && n <= len(l.left), at, api.ErrOption)
	return api.Option{Kind: kind, Data: l.run(n)}
}

// Options is the options of bytes; with an error the place.
func Options(b []byte) (all []api.Option, at int, e api.Errno) {
	defer func() {
		if f, ok := recover().(fault); ok {
			all, at, e = nil, f.at, f.e
		}
	}()
	l := listed(b)
	for o, more := l.next(); more; o, more = l.next() {
		o.Data = bytes.Clone(o.Data)
		all = append(all, o)
	}
	return all, 0, api.OK
}

// Routed tells whether there is a source route that is not at its end.
func Routed(b []byte) (found bool) {
	defer func() {
		// Options end at the first one that is none.
		if _, ok := recover().(fault); ok {
			found = false
		}
	}()
	l := listed(b)
	for o, more := l.next(); more; o, more = l.next() {
		if route(o) {
			return true
		}
	}
	return false
}

// route tells whether an option is a source route whose pointer is not yet behind it.
func route(o api.Option) bool {
	if o.Kind != kindLoose && o.Kind != kindStrict || len(o.Data) == 0 {
		return false
	}
	return int(o.Data[0]) <= optionHead+len(o.Data)
}

// Pack is options as bytes.
func Pack(l ...api.Option) ([]byte, api.Errno) {
	n := 0
	for _, o := range l {
		if o.Kind == kindEnd || o.Kind == kindNone || len(o.Data) > mostData {
			return nil, api.ErrOption
		}
		n += optionHead + len(o.Data)
	}
	if n > mostOptions {
		return nil, api.ErrLong
	}
	// Bytes that no option fills stay 0, which is kindEnd.
	b := make([]byte, (n+unit-1)/unit*unit)
	at := 0
	for _, o := range l {
		b[at], b[at+1] = o.Kind, byte(optionHead+len(o.Data))
		copy(b[at+optionHead:], o.Data)
		at += optionHead + len(o.Data)
	}
	return b, api.OK
}
