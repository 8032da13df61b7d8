package portset

import (
	"iter"

	"ferryman/api"
)

// shape is where the ports of a set stand: in blocks of as many ports, each as far behind the one ahead. A block has the ports of one A.
type shape struct {
	from   int // the first block's first port
	size   int // a block's ports
	step   int // from a block to the next one
	blocks int
}

// shapeOf is the shape of a set that may be.
func shapeOf(s api.PortSet) shape {
	step := 1 << (portBits - s.Offset)
	size := step >> s.Len
	w := shape{from: int(s.PSID) * size, size: size, step: step, blocks: 1 << s.Offset}
	if s.Offset > 0 { // the ports whose A is 0 are nobody's
		w.from += step
		w.blocks--
	}
	return w
}

func (w shape) count() int { return w.blocks * w.size }

// at is the i-th port, for an i that is below count.
func (w shape) at(i int) uint16 {
	return uint16(w.from + i/w.size*w.step + i%w.size)
}

// upTo is how many ports of the set are not above a port.
func (w shape) upTo(port uint16) int {
	far := int(port) - w.from
	if far < 0 {
		return 0
	}
	return far/w.step*w.size + min(far%w.step+1, w.size)
}

// runs goes through the blocks, and takes those that touch as one run.
func (w shape) runs() iter.Seq[api.Ports] {
	if w.size == w.step {
		w.size, w.blocks = w.count(), 1
	}
	return func(yield func(api.Ports) bool) {
		for i := range w.blocks {
			from := w.from + i*w.step
			if !yield(api.Ports{From: uint16(from), To: uint16(from + w.size - 1)}) {
				return
			}
		}
	}
}
