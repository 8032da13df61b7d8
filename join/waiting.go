package join

import (
	"slices"

	"ferryman/api"
)

// waiting is the datagrams that wait for fragments.
type waiting struct {
	conf  api.JoinConf
	now   int               // the greatest time of a call
	known map[key]*datagram // those that wait
	line  []*datagram       // the same, in the order in which they began
	size  int               // bytes of all their fragments
}

// put takes a fragment to those of its datagram: which is the answer, if it is whole, and waits no more; else nil.
func (w *waiting) put(f fragment) *datagram {
	must(f.mayBe(), api.ErrPiece)
	d := w.of(f)
	at := d.place(f.piece)
	if d.has(at, f.piece) {
		return nil
	}
	if !d.takes(at, f.piece) {
		w.drop(d)
		panic(gaveUp(api.ErrOverlap))
	}
	d.add(at, f)
	w.size += len(f.body)
	if !d.whole() {
		return nil
	}
	w.drop(d)
	return d
}

// of is the datagram of a fragment; if nothing of it waits, it begins to.
func (w *waiting) of(f fragment) *datagram {
	if d := w.known[f.key]; d != nil {
		return d
	}
	must(len(w.line) < w.conf.Most, api.ErrFull)
	d := &datagram{key: f.key, began: w.now, late: api.Late{Six: f.six}}
	w.known[f.key] = d
	w.line = append(w.line, d)
	return d
}

func (w *waiting) drop(d *datagram) {
	at := slices.Index(w.line, d)
	w.forget(at, at+1)
}

// forget lets the datagrams from one place of the line to another wait no more.
func (w *waiting) forget(from, to int) {
	for _, d := range w.line[from:to] {
		delete(w.known, d.key)
		w.size -= d.size
	}
	w.line = slices.Delete(w.line, from, to)
}

// giveUpLate lets all that is late wait no more: what is told of each.
func (w *waiting) giveUpLate() []api.Late {
	var told []api.Late
	for _, d := range w.line {
		if w.now-d.began < w.conf.Timeout {
			break // nor did those behind it begin earlier
		}
		told = append(told, d.late)
	}
	w.forget(0, len(told))
	return told
}
