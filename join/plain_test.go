package join_test

import (
	"bytes"
	"fmt"
	"math/rand/v2"
	"reflect"
	"testing"

	"ferryman/api"
	"ferryman/ipv4"
	"ferryman/ipv6"
	"ferryman/join"
)

func dice() *rand.Rand { return rand.New(rand.NewPCG(15, 7)) }

// plainFrag is a fragment of either kind, as it came.
type plainFrag struct {
	six  bool
	v4   api.V4
	v6   api.V6
	from int
	body []byte
	more bool
}

func (f plainFrag) end() int { return f.from + len(f.body) }

// plainWait is a datagram that waits.
type plainWait struct {
	name  string
	six   bool
	began int
	frags []plainFrag
}

// plain is a joiner as the chapter's words tell one, written apart from the program: it keeps fragments as they came, and looks at each of their bytes anew.
type plain struct {
	conf  api.JoinConf
	now   int
	waits []plainWait
}

func (m *plain) time(now int) api.Errno {
	if now < 0 || now > 1<<40 || now < m.now {
		return 153
	}
	m.now = now
	return 0
}

func (m *plain) put4(now int, v api.V4) (api.V4, bool, api.Errno) {
	if e := m.time(now); e != 0 {
		return api.V4{}, false, e
	}
	if e := ipv4.Check(v); e != 0 {
		return api.V4{}, false, e
	}
	v.Options, v.Body = bytes.Clone(v.Options), bytes.Clone(v.Body)
	if v.Off == 0 && !v.MF {
		return v, true, 0
	}
	name := fmt.Sprint("four", v.Src, v.Dst, v.Proto, v.ID)
	first, all, e := m.put(name, plainFrag{v4: v, from: 8 * v.Off, body: v.Body, more: v.MF})
	if e != 0 || first == nil {
		return api.V4{}, false, e
	}
	w := first.v4
	w.Off, w.MF, w.Body = 0, false, all
	if 20+len(w.Options)+len(w.Body) > 65535 {
		return api.V4{}, false, 2
	}
	return w, true, 0
}

func (m *plain) put6(now int, v api.V6) (api.V6, bool, api.Errno) {
	if e := m.time(now); e != 0 {
		return api.V6{}, false, e
	}
	if e := ipv6.Check(v); e != 0 {
		return api.V6{}, false, e
	}
	v = copy6(v)
	if !v.Frag {
		return v, true, 0
	}
	name := fmt.Sprint("six", v.Src, v.Dst, v.ID)
	first, all, e := m.put(name, plainFrag{six: true, v6: v, from: 8 * v.Off, body: v.Body, more: v.More})
	if e != 0 || first == nil {
		return api.V6{}, false, e
	}
	return plainWhole6(first.v6, all)
}

func plainWhole6(v api.V6, all []byte) (api.V6, bool, api.Errno) {
	v.Frag, v.ID, v.Off, v.More, v.Body = false, 0, 0, false, all
	b := plainBytes(v)
	if len(b)-40 > 65535 {
		return api.V6{}, false, 2
	}
	switch v.Proto {
	case 0, 43, 44, 60:
		w, _, e := ipv6.Parse(b)
		if e != 0 {
			return api.V6{}, false, 54
		}
		return w, true, 0
	}
	return v, true, 0
}

// plainBytes is the bytes of a datagram without a fragment header, whatever its Proto. They are written from the end on, so that each header knows what stands behind it.
func plainBytes(v api.V6) []byte {
	behind, next := v.Body, v.Proto
	for i := len(v.Heads) - 1; i >= 0; i-- {
		h := v.Heads[i]
		behind = append(append([]byte{next, byte((len(h.Body) - 6) / 8)}, h.Body...), behind...)
		next = h.Kind
	}
	n := len(behind)
	b := []byte{6<<4 | v.Class>>4, v.Class<<4 | byte(v.Label>>16), byte(v.Label >> 8), byte(v.Label), byte(n >> 8), byte(n), next, v.Hop}
	b = append(append(b, v.Src[:]...), v.Dst[:]...)
	return append(b, behind...)
}

// put takes a fragment: of a whole datagram the fragment with Off 0, and all bytes.
func (m *plain) put(name string, f plainFrag) (*plainFrag, []byte, api.Errno) {
	if f.more && (len(f.body) == 0 || len(f.body)&7 != 0) || f.end() > 65535 {
		return nil, nil, 150
	}
	at := -1
	for i, w := range m.waits {
		if w.name == name {
			at = i
		}
	}
	if at < 0 && len(m.waits) == m.conf.Most {
		return nil, nil, 151
	}
	if at < 0 {
		at = len(m.waits)
		m.waits = append(m.waits, plainWait{name: name, six: f.six, began: m.now})
	}
	w := &m.waits[at]
	for _, g := range w.frags {
		if g.from == f.from && bytes.Equal(g.body, f.body) && g.more == f.more {
			return nil, nil, 0
		}
	}
	w.frags = append(w.frags, f)
	frags := w.frags
	if !plainTogether(frags) {
		m.waits = append(m.waits[:at], m.waits[at+1:]...)
		return nil, nil, 152
	}
	first, all := plainWhole(frags)
	if first != nil {
		m.waits = append(m.waits[:at], m.waits[at+1:]...)
	}
	return first, all, 0
}

// plainTogether tells whether fragments go together.
func plainTogether(frags []plainFrag) bool {
	beyond := 0
	for _, f := range frags {
		beyond = max(beyond, f.end())
	}
	there := make([]bool, beyond)
	lasts, end := 0, 0
	for _, f := range frags {
		for i := range f.body {
			if there[f.from+i] {
				return false
			}
			there[f.from+i] = true
		}
		if !f.more {
			lasts, end = lasts+1, f.end()
		}
	}
	if lasts > 1 {
		return false
	}
	for _, f := range frags {
		if lasts == 1 && f.end() > end {
			return false
		}
	}
	return true
}

// plainWhole is the fragment with Off 0 and all bytes, if fragments that go together are whole; else nil.
func plainWhole(frags []plainFrag) (*plainFrag, []byte) {
	end := -1
	for _, f := range frags {
		if !f.more {
			end = f.end()
		}
	}
	if end < 0 {
		return nil, nil
	}
	all, there := make([]byte, end), make([]bool, end)
	var first *plainFrag
	for i, f := range frags {
		for k, x := range f.body {
			all[f.from+k], there[f.from+k] = x, true
		}
		if f.from == 0 {
			first = &frags[i]
		}
	}
	for _, is := range there {
		if !is {
			return nil, nil
		}
	}
	return first, all
}

func (m *plain) tick(now int) ([]api.Late, api.Errno) {
	if e := m.time(now); e != 0 {
		return nil, e
	}
	var late []api.Late
	var stay []plainWait
	for _, w := range m.waits {
		if w.began+m.conf.Timeout > now {
			stay = append(stay, w)
			continue
		}
		l := api.Late{Six: w.six}
		for _, f := range w.frags {
			if f.from == 0 {
				l.First, l.V4, l.V6 = true, f.v4, f.v6
			}
		}
		late = append(late, l)
	}
	m.waits = stay
	return late, 0
}

func (m *plain) next() (int, bool) {
	best, is := 0, false
	for _, w := range m.waits {
		if !is || w.began+m.conf.Timeout < best {
			best, is = w.began+m.conf.Timeout, true
		}
	}
	return min(best, 1<<40), is
}

func (m *plain) bytes() int {
	n := 0
	for _, w := range m.waits {
		for _, f := range w.frags {
			n += len(f.body)
		}
	}
	return n
}

func copy6(v api.V6) api.V6 {
	heads := make([]api.Head, len(v.Heads))
	for i, h := range v.Heads {
		heads[i] = api.Head{Kind: h.Kind, Body: bytes.Clone(h.Body)}
	}
	v.Heads, v.Body = heads, bytes.Clone(v.Body)
	return v
}

func sameLate(a, b api.Late) bool {
	return a.Six == b.Six && a.First == b.First && ipv4.Same(a.V4, b.V4) && ipv6.Same(a.V6, b.V6)
}

// both is a joiner and the plain one: each call is made of both, and what they tell held against each other.
type both struct {
	t *testing.T
	j *join.Joiner
	m *plain
}

func newBoth(t *testing.T, most, timeout int) both {
	t.Helper()
	c := api.JoinConf{Most: most, Timeout: timeout}
	j, e := join.New(c)
	if j == nil || e != api.OK {
		t.Fatalf("New(%v): %d", c, e)
	}
	b := both{t, j, &plain{conf: c}}
	b.hold("New")
	return b
}

// hold holds what is to be seen of the joiner against the plain one.
func (b both) hold(call string) {
	b.t.Helper()
	if b.j.Open() != len(b.m.waits) || b.j.Open() > b.m.conf.Most {
		b.t.Fatalf("%s: Open = %d; want %d", call, b.j.Open(), len(b.m.waits))
	}
	if got, want := b.j.Bytes(), b.m.bytes(); got != want {
		b.t.Fatalf("%s: Bytes = %d; want %d", call, got, want)
	}
	n, is := b.j.Next()
	if wantN, wantIs := b.m.next(); n != wantN || is != wantIs {
		b.t.Fatalf("%s: Next = %d, %t; want %d, %t", call, n, is, wantN, wantIs)
	}
}

func (b both) put4(now int, v api.V4) (api.V4, bool, api.Errno) {
	b.t.Helper()
	want, wantIs, wantE := b.m.put4(now, v)
	got, is, e := b.j.Put4(now, v)
	call := fmt.Sprintf("Put4(%d, %s)", now, show4(v))
	if !ipv4.Same(got, want) || is != wantIs || e != wantE {
		b.t.Fatalf("%s = %s, %t, %d; want %s, %t, %d", call, show4(got), is, e, show4(want), wantIs, wantE)
	}
	if !is && !reflect.DeepEqual(got, api.V4{}) {
		b.t.Fatalf("%s = %s, %t, %d", call, show4(got), is, e)
	}
	b.hold(call)
	return got, is, e
}

func (b both) put6(now int, v api.V6) (api.V6, bool, api.Errno) {
	b.t.Helper()
	want, wantIs, wantE := b.m.put6(now, v)
	got, is, e := b.j.Put6(now, v)
	call := fmt.Sprintf("Put6(%d, %s)", now, show6(v))
	if !ipv6.Same(got, want) || is != wantIs || e != wantE {
		b.t.Fatalf("%s = %s, %t, %d; want %s, %t, %d", call, show6(got), is, e, show6(want), wantIs, wantE)
	}
	if !is && !reflect.DeepEqual(got, api.V6{}) {
		b.t.Fatalf("%s = %s, %t, %d", call, show6(got), is, e)
	}
	b.hold(call)
	return got, is, e
}

func (b both) tick(now int) ([]api.Late, api.Errno) {
	b.t.Helper()
	want, wantE := b.m.tick(now)
	got, e := b.j.Tick(now)
	call := fmt.Sprintf("Tick(%d)", now)
	if len(got) != len(want) || e != wantE {
		b.t.Fatalf("%s: %d are late, %d; want %d, %d", call, len(got), e, len(want), wantE)
	}
	for i := range got {
		if !sameLate(got[i], want[i]) {
			b.t.Fatalf("%s: %d is %+v; want %+v", call, i, got[i], want[i])
		}
	}
	b.hold(call)
	return got, e
}

func show4(v api.V4) string {
	return fmt.Sprintf("[%v to %v proto %d id %d: DF %t, MF %t, off %d, %d of options, %d of body]", v.Src, v.Dst, v.Proto, v.ID, v.DF, v.MF, v.Off, len(v.Options), len(v.Body))
}

func show6(v api.V6) string {
	return fmt.Sprintf("[%v to %v proto %d: frag %t, id %d, more %t, off %d, %d heads, %d of body]", v.Src, v.Dst, v.Proto, v.Frag, v.ID, v.More, v.Off, len(v.Heads), len(v.Body))
}
