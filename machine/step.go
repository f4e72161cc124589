package machine

import (
	"warrener/act"
	"warrener/api"
	"warrener/scheme"
	"warrener/tag"
	"warrener/thread"
)

// ofMicro is the place in the code that a store has which no instruction made.
const ofMicro = 0

// fine is the kind of what is not wrong.
const fine = 0

// waits tells whether stores wait in buffers, which are agents then.
func (h *held) waits() bool {
	return h.config.Order == api.TSO
}

// isBuffer tells whether the agent, which there is, is a buffer.
func (h *held) isBuffer(a int) bool {
	return a >= len(h.sides)
}

// threadOf answers the number of the thread that the agent, which there is, is or has the buffer of.
func (h *held) threadOf(a int) int {
	return a % len(h.sides)
}

// lookAhead finds out what the thread does next: that is asked far more often than it changes.
func (h *held) lookAhead(t int) {
	x := &h.sides[t]
	own := h.reads(t, api.Place{Kind: api.PlCount, I: t}, 0)
	x.next = act.Of(h.prog, t, x.thread, own.N)
}

// reads answers what the thread reads at the place, in that life of its cell: what it stored there itself, if that still waits.
func (h *held) reads(t int, x api.Place, gen int) api.Word {
	if w, ok := h.sides[t].buffer.Last(x, gen); ok {
		return w
	}
	return h.at(x)
}

// store has the thread store what its act says, by the instruction at pc.
func (h *held) store(t int, x api.Act, pc int) {
	if !h.waits() {
		h.put(x.Place, x.Word)
		return
	}
	b := h.sides[t].buffer.Clone()
	b.Push(api.Entry{Place: x.Place, Word: x.Word, Gen: x.Gen, Pc: pc})
	h.sides[t].buffer = b
}

// step does the next step of the agent, which can, and answers what is wrong with it.
func (h *held) step(a int) []api.Key {
	t := h.threadOf(a)
	if h.isBuffer(a) {
		return h.flush(t)
	}
	x, ok := thread.Next(h.sides[t].thread, h.prog.Code[t])
	if !ok {
		h.sides[t].thread = h.goOn(t)
		return nil
	}
	return h.start(t, x)
}

// flush has the first store of the thread's buffer go out. What goes into a life that is over is lost.
func (h *held) flush(t int) []api.Key {
	b := h.sides[t].buffer.Clone()
	e, _ := b.Pop()
	h.sides[t].buffer = b
	if !h.lives(e.Place, e.Gen) {
		return []api.Key{{Kind: api.Uaf, Thread: t, Pc: e.Pc}}
	}
	h.put(e.Place, e.Word)
	return nil
}

// goOn answers the thread behind a step between two instructions.
func (h *held) goOn(t int) api.Thread {
	th, x := h.sides[t].thread, h.sides[t].next
	switch x.Kind {
	case api.ActWrite:
		h.store(t, x, ofMicro)
		th.Micro = api.Micro{}
		return th
	case api.ActSwap:
		return scheme.Advanced(th, h.swap(x))
	case api.ActRelease:
		return h.release(th)
	}
	return scheme.See(h.prog, h.config, t, th, h.reads(t, x.Place, 0).N)
}

// release answers the thread that has let go of what may go of its bag.
func (h *held) release(th api.Thread) api.Thread {
	gone, th := scheme.Release(h.config, th)
	for _, b := range gone {
		h.cells.Free(b.Cell)
	}
	return th
}

// start has the thread start the instruction, and answers what is wrong with it: then the thread is trapped, and nothing else happens.
func (h *held) start(t int, x api.Instr) []api.Key {
	pc := h.sides[t].thread.Pc
	th := thread.Start(h.sides[t].thread)
	if kind := h.wrong(x.Op, h.sides[t].next); kind != fine {
		th.Status = api.Trapped
		h.sides[t].thread = th
		return []api.Key{{Kind: kind, Thread: t, Pc: pc}}
	}
	h.sides[t].thread = h.do(t, pc, th, x)
	return nil
}

// wrong answers the kind of what is wrong with such an instruction, whose act that is. What its pointer leads to is asked first.
func (h *held) wrong(op int, x api.Act) int {
	if kind := h.astray(op, x.At); kind != fine {
		return kind
	}
	if x.Kind == api.ActSwap && h.mistakes(x) {
		return api.Aba
	}
	return fine
}

// astray answers the kind of what is wrong with such an instruction through that word, by what is found through it: nothing, a life that is over, one that is not, or a retired cell.
func (h *held) astray(op int, w api.Word) int {
	found := h.cells.Find(w)
	switch op {
	case api.OpLoad, api.OpStore, api.OpCas:
		return [...]int{api.Wild, api.Uaf, fine, fine}[found]
	case api.OpFree:
		return [...]int{api.Wild, api.DoubleFree, fine, api.DoubleFree}[found]
	case api.OpRetire:
		return [...]int{api.Wild, api.Uaf, fine, api.DoubleRetire}[found]
	}
	return fine
}

// do answers the thread that has started the instruction at pc, with which nothing is wrong, behind what it does.
func (h *held) do(t int, pc int, th api.Thread, x api.Instr) api.Thread {
	next := h.sides[t].next
	switch next.Kind {
	case api.ActLocal:
		th, _ = thread.Local(th, x)
	case api.ActRead:
		return read(th, x, h.reads(t, next.Place, next.Gen))
	case api.ActWrite:
		h.store(t, next, pc)
		if x.Op == api.OpQuiet {
			return scheme.Quieted(h.config, th)
		}
	case api.ActSwap:
		return thread.Set(th, x.A, truth(h.swap(next)))
	case api.ActAlloc:
		w, _ := h.cells.Alloc(t, pc)
		return thread.Set(th, x.A, w)
	case api.ActFree:
		h.cells.Free(next.At.Cell)
	case api.ActRetire:
		return h.retire(th, next.At)
	}
	return th
}

// retire answers the thread that has retired the cell to which w points.
func (h *held) retire(th api.Thread, w api.Word) api.Thread {
	h.cells.Retire(w.Cell)
	th.Bag = append(th.Bag, api.Bagged{Cell: w.Cell, Gen: w.Gen})
	th.Micro = scheme.Begin(h.prog, h.config, th)
	return th
}

// read answers the thread that has read w by the instruction. To enter is to show a mark next, of the epoch that was read.
func read(th api.Thread, x api.Instr, w api.Word) api.Thread {
	if x.Op == api.OpEnter {
		th.Micro = api.Micro{Kind: api.MiEnter, N: w.N}
		return th
	}
	return thread.Set(th, x.A, w)
}

// truth answers the plain word that a register has of what was asked.
func truth(ok bool) api.Word {
	if ok {
		return tag.Plain(1)
	}
	return tag.Plain(0)
}
