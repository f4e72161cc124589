package machine

import (
	"warrener/api"
	"warrener/code"
)

// Where the sums' parts begin that are of no thread, as in a state's sum.
const (
	atBuffers = 64
	atShared  = 128
)

// sums has the sums of a state's parts: of each thread, of each buffer, and of what is shared.
type sums struct {
	ofThreads, ofBuffers [api.MaxThreads]part
	ofShared             part
}

// part is the sum of one part, if it is known. Where the part was changed it is not, till somebody asks: most steps are undone ahead of that.
type part struct {
	sum   uint64
	known bool
}

// get answers the sum of the part with that number, and those octets.
func (p *part) get(i int, octets func() []byte) uint64 {
	if !p.known {
		*p = part{sum: code.Part(i, octets()), known: true}
	}
	return p.sum
}

// forgetSums drops the sums of what the last step has changed.
func (h *held) forgetSums() {
	was := h.past[len(h.past)-1]
	h.ofThreads[was.t] = part{}
	if h.sides[was.t].buffer != was.side.buffer {
		h.ofBuffers[was.t] = part{}
	}
	if h.mark() != was.mark {
		h.ofShared = part{}
	}
}
