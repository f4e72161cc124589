package machine_test

import (
	"cmp"
	"slices"

	"warrener/api"
	"warrener/reach"
	"warrener/scheme"
	"warrener/thread"
)

// What the page says, in another way than the program goes: a whole state, of which each step makes another one; by instructions, without acts, and without the objects of the layers below.

// storing are the instructions that store something, where that waits under TSO.
var storing = []int{api.OpPut, api.OpStore, api.OpGuard, api.OpClear, api.OpLeave, api.OpQuiet}

// world is a machine by the page's words.
type world struct {
	p api.Prog
	c api.Config
	s api.State
}

// beginning is the world of that program and config at first.
func beginning(p api.Prog, c api.Config) world {
	threads := len(p.Code)
	s := api.State{
		Threads: make([]api.Thread, threads), Buffers: make([][]api.Entry, threads),
		Roots: make([]api.Word, p.Roots), Slots: make([]api.Word, threads*p.Slots),
		Cells: make([]api.Cell, p.Cells), Marks: make([]int64, threads), Counts: make([]int64, threads),
	}
	for t := range s.Threads {
		s.Threads[t].Fuel = c.Fuel
	}
	for i := range p.Cells {
		s.Free = append(s.Free, i+1)
	}
	return world{p: p, c: c, s: s}
}

// copied is the same world in other memory.
func (w world) copied() world {
	s := &w.s
	s.Threads, s.Buffers = slices.Clone(s.Threads), slices.Clone(s.Buffers)
	for t := range s.Threads {
		th := &s.Threads[t]
		th.Micro.Seen, th.Bag, th.Snap = slices.Clone(th.Micro.Seen), slices.Clone(th.Bag), slices.Clone(th.Snap)
		s.Buffers[t] = slices.Clone(s.Buffers[t])
	}
	s.Roots, s.Slots, s.Cells, s.Free = slices.Clone(s.Roots), slices.Clone(s.Slots), slices.Clone(s.Cells), slices.Clone(s.Free)
	s.Marks, s.Counts = slices.Clone(s.Marks), slices.Clone(s.Counts)
	return w
}

func (w world) agents() int {
	if w.c.Order == api.TSO {
		return 2 * len(w.p.Code)
	}
	return len(w.p.Code)
}

func (w world) done(t int) bool {
	th := w.s.Threads[t]
	return th.Status != 0 || th.Micro.Kind == 0 && (th.Fuel == 0 || th.Pc >= len(w.p.Code[t]))
}

func (w world) over() bool {
	for t, l := range w.s.Buffers {
		if len(l) > 0 || !w.done(t) {
			return false
		}
	}
	return true
}

// instr is the one that the thread starts next; one of kind 0, if it has a micro.
func (w world) instr(t int) api.Instr {
	th := w.s.Threads[t]
	if th.Micro.Kind != 0 {
		return api.Instr{}
	}
	return w.p.Code[t][th.Pc]
}

// stores tells whether the thread stores something next, where that waits under TSO.
func (w world) stores(t int) bool {
	return slices.Contains(storing, w.instr(t).Op) || w.s.Threads[t].Micro.Kind == api.MiEnter
}

// drains tells whether the thread waits for its buffer to be empty.
func (w world) drains(t int) bool {
	return slices.Contains([]int{api.OpSwap, api.OpCas, api.OpFence}, w.instr(t).Op) || w.s.Threads[t].Micro.Kind == api.MiAdvance
}

// has tells whether the agent has a next step.
func (w world) has(a int) bool {
	switch threads := len(w.p.Code); {
	case a < 0 || a >= w.agents():
		return false
	case a >= threads:
		return len(w.s.Buffers[a-threads]) > 0
	}
	return !w.done(a)
}

func (w world) can(a int) bool {
	if !w.has(a) || a >= len(w.p.Code) || w.c.Order == api.SC {
		return w.has(a)
	}
	waiting := len(w.s.Buffers[a])
	return !(w.stores(a) && waiting == w.c.Depth) && !(w.drains(a) && waiting > 0)
}

// there is what stands at the place.
func (w world) there(x api.Place) api.Word {
	switch x.Kind {
	case api.PlRoot:
		return w.s.Roots[x.I]
	case api.PlField:
		return w.s.Cells[x.I-1].F[x.J]
	case api.PlSlot:
		return w.s.Slots[x.I*w.p.Slots+x.J]
	case api.PlEpoch:
		return api.Word{N: w.s.Epoch}
	case api.PlMark:
		return api.Word{N: w.s.Marks[x.I]}
	}
	return api.Word{N: w.s.Counts[x.I]}
}

// lay has v stand at the place.
func (w world) lay(x api.Place, v api.Word) world {
	switch x.Kind {
	case api.PlRoot:
		w.s.Roots[x.I] = v
	case api.PlField:
		w.s.Cells[x.I-1].F[x.J] = v
	case api.PlSlot:
		w.s.Slots[x.I*w.p.Slots+x.J] = v
	case api.PlEpoch:
		w.s.Epoch = v.N
	case api.PlMark:
		w.s.Marks[x.I] = v.N
	default:
		w.s.Counts[x.I] = v.N
	}
	return w
}

// read is what the thread reads at the place, in that life.
func (w world) read(t int, x api.Place, gen int) api.Word {
	for i := len(w.s.Buffers[t]) - 1; i >= 0; i-- {
		if e := w.s.Buffers[t][i]; e.Place == x && e.Gen == gen {
			return e.Word
		}
	}
	return w.there(x)
}

// store is the world behind the thread's store by the instruction at pc.
func (w world) store(t int, x api.Place, v api.Word, gen int, pc int) world {
	if w.c.Order == api.SC {
		return w.lay(x, v)
	}
	w.s.Buffers[t] = append(w.s.Buffers[t], api.Entry{Place: x, Word: v, Gen: gen, Pc: pc})
	return w
}

// find is what is found through a word: nothing, a life that is over, one that is not, a retired cell.
func (w world) find(v api.Word) int {
	if v.Cell < 1 {
		return 0
	}
	switch c := w.s.Cells[v.Cell-1]; {
	case c.Gen != v.Gen || c.Status == api.Free:
		return 1
	case c.Status == api.Live:
		return 2
	}
	return 3
}

// free takes the cell back.
func (w world) free(cell int) world {
	w.s.Cells[cell-1] = api.Cell{Gen: w.s.Cells[cell-1].Gen}
	w.s.Free = append([]int{cell}, w.s.Free...)
	return w
}

// step is the world behind the agent's step, what is told, and whether it can step.
func (w world) step(a int) (world, []api.Key, bool) {
	if !w.can(a) {
		return w, nil, false
	}
	w = w.copied()
	var keys []api.Key
	switch threads := len(w.p.Code); {
	case a >= threads:
		w, keys = w.flush(a - threads)
	case w.s.Threads[a].Micro.Kind != 0:
		w = w.micro(a)
	default:
		w, keys = w.start(a)
	}
	if w.over() {
		keys = append(keys, reach.Leaks(w.s.Roots, w.s.Cells)...)
	}
	return w, keys, true
}

func (w world) flush(t int) (world, []api.Key) {
	e := w.s.Buffers[t][0]
	w.s.Buffers[t] = w.s.Buffers[t][1:]
	if e.Place.Kind == api.PlField && w.find(api.Word{N: int64(e.Place.I), Cell: e.Place.I, Gen: e.Gen}) < 2 {
		return w, []api.Key{{Kind: api.Uaf, Thread: t, Pc: e.Pc}}
	}
	return w.lay(e.Place, e.Word), nil
}

// sees is the place that the thread's micro sees.
func (w world) sees(t int) api.Place {
	switch m := w.s.Threads[t].Micro; m.Kind {
	case api.MiGuards:
		return api.Place{Kind: api.PlSlot, I: m.I / w.p.Slots, J: m.I % w.p.Slots}
	case api.MiMarks:
		return api.Place{Kind: api.PlMark, I: m.I}
	case api.MiSnapshot, api.MiCounts:
		return api.Place{Kind: api.PlCount, I: m.I}
	}
	return api.Place{Kind: api.PlEpoch}
}

func (w world) micro(t int) world {
	th := w.s.Threads[t]
	switch n := th.Micro.N; th.Micro.Kind {
	case api.MiEnter:
		w = w.store(t, api.Place{Kind: api.PlMark, I: t}, api.Word{N: 2*n + 1}, 0, 0)
		th.Micro = api.Micro{}
	case api.MiAdvance:
		done := w.s.Epoch == n
		if done {
			w.s.Epoch = n + 1
		}
		th = scheme.Advanced(th, done)
	case api.MiRelease:
		var gone []api.Bagged
		gone, th = scheme.Release(w.c, th)
		for _, b := range gone {
			w = w.free(b.Cell)
		}
	default:
		th = scheme.See(w.p, w.c, t, th, w.read(t, w.sees(t), 0).N)
	}
	w.s.Threads[t] = th
	return w
}

// wrong is the kind of what is wrong with the instruction, which the thread starts; 0: nothing.
func (w world) wrong(t int, x api.Instr) int {
	reg := w.s.Threads[t].Regs
	switch x.Op {
	case api.OpLoad:
		return [4]int{api.Wild, api.Uaf}[w.find(reg[x.B])]
	case api.OpStore:
		return [4]int{api.Wild, api.Uaf}[w.find(reg[x.A])]
	case api.OpCas:
		if found := w.find(reg[x.A]); found < 2 {
			return [4]int{api.Wild, api.Uaf}[found]
		}
		return w.again(api.Place{Kind: api.PlField, I: reg[x.A].Cell, J: int(x.N)}, reg[x.B])
	case api.OpSwap:
		return w.again(api.Place{Kind: api.PlRoot, I: int(x.N)}, reg[x.B])
	case api.OpFree:
		return [4]int{api.Wild, api.DoubleFree, 0, api.DoubleFree}[w.find(reg[x.A])]
	case api.OpRetire:
		return [4]int{api.Wild, api.Uaf, 0, api.DoubleRetire}[w.find(reg[x.A])]
	}
	return 0
}

// again is Aba, if what stands there has the number of what is wanted, but is another word.
func (w world) again(x api.Place, want api.Word) int {
	if v := w.there(x); v.N == want.N && v != want {
		return api.Aba
	}
	return 0
}

func (w world) start(t int) (world, []api.Key) {
	x, th := w.instr(t), &w.s.Threads[t]
	pc := th.Pc
	th.Pc, th.Fuel = pc+1, th.Fuel-1
	if kind := w.wrong(t, x); kind != 0 {
		th.Status = api.Trapped
		return w, []api.Key{{Kind: kind, Thread: t, Pc: pc}}
	}
	if local, ok := thread.Local(*th, x); ok {
		*th = local
		return w, nil
	}
	if slices.Contains(storing, x.Op) {
		return w.stored(t, x, pc), nil
	}
	return w.shared(t, x, pc), nil
}

// stored is the world behind an instruction that stores.
func (w world) stored(t int, x api.Instr, pc int) world {
	reg := w.s.Threads[t].Regs
	switch x.Op {
	case api.OpPut:
		return w.store(t, api.Place{Kind: api.PlRoot, I: x.A}, reg[x.B], 0, pc)
	case api.OpStore:
		return w.store(t, api.Place{Kind: api.PlField, I: reg[x.A].Cell, J: int(x.N)}, reg[x.B], reg[x.A].Gen, pc)
	case api.OpGuard:
		return w.store(t, api.Place{Kind: api.PlSlot, I: t, J: int(x.N)}, reg[x.A], 0, pc)
	case api.OpClear:
		return w.store(t, api.Place{Kind: api.PlSlot, I: t, J: int(x.N)}, api.Word{}, 0, pc)
	case api.OpLeave:
		return w.store(t, api.Place{Kind: api.PlMark, I: t}, api.Word{}, 0, pc)
	}
	count := api.Place{Kind: api.PlCount, I: t}
	w = w.store(t, count, api.Word{N: w.read(t, count, 0).N + 1}, 0, pc)
	w.s.Threads[t] = scheme.Quieted(w.c, w.s.Threads[t])
	return w
}

// shared is the world behind any other instruction that touches what is shared, and behind a fence.
func (w world) shared(t int, x api.Instr, pc int) world {
	th := &w.s.Threads[t]
	reg := th.Regs
	switch x.Op {
	case api.OpLook:
		th.Regs[x.A] = w.read(t, api.Place{Kind: api.PlRoot, I: x.B}, 0)
	case api.OpLoad:
		th.Regs[x.A] = w.read(t, api.Place{Kind: api.PlField, I: reg[x.B].Cell, J: int(x.N)}, reg[x.B].Gen)
	case api.OpSwap:
		return w.swapped(t, x, api.Place{Kind: api.PlRoot, I: int(x.N)})
	case api.OpCas:
		return w.swapped(t, x, api.Place{Kind: api.PlField, I: reg[x.A].Cell, J: int(x.N)})
	case api.OpNew:
		th.Regs[x.A] = api.Word{}
		if len(w.s.Free) > 0 {
			cell := w.s.Free[0]
			w.s.Free = w.s.Free[1:]
			w.s.Cells[cell-1] = api.Cell{Status: api.Live, Gen: w.s.Cells[cell-1].Gen + 1, By: t, Pc: pc}
			th.Regs[x.A] = api.Word{N: int64(cell), Cell: cell, Gen: w.s.Cells[cell-1].Gen}
		}
	case api.OpFree:
		return w.free(reg[x.A].Cell)
	case api.OpRetire:
		w.s.Cells[reg[x.A].Cell-1].Status = api.Retired
		th.Bag = append(th.Bag, api.Bagged{Cell: reg[x.A].Cell, Gen: reg[x.A].Gen})
		th.Micro = scheme.Begin(w.p, w.c, *th)
	case api.OpEnter:
		th.Micro = api.Micro{Kind: api.MiEnter, N: w.read(t, api.Place{Kind: api.PlEpoch}, 0).N}
	}
	return w
}

// swapped is the world behind a swap at the place, with which nothing is wrong.
func (w world) swapped(t int, x api.Instr, at api.Place) world {
	th := &w.s.Threads[t]
	alike := w.there(at) == th.Regs[x.B]
	if alike {
		w = w.lay(at, th.Regs[x.C])
	}
	th.Regs[x.A] = api.Word{}
	if alike {
		th.Regs[x.A].N = 1
	}
	return w
}

// foot is what the agent's next step touches, and whether it has one.
func (w world) foot(a int) (api.Foot, bool) {
	if !w.has(a) {
		return api.Foot{}, false
	}
	var f api.Foot
	switch threads := len(w.p.Code); {
	case a >= threads:
		x := w.s.Buffers[a-threads][0].Place
		f.Writes = []api.Place{x}
		if x.Kind == api.PlField {
			f.Reads = []api.Place{{Kind: api.PlHead, I: x.I}}
		}
	case w.s.Threads[a].Micro.Kind != 0:
		f = w.microFoot(a)
	default:
		f = w.instrFoot(a)
	}
	return api.Foot{Reads: rising(f.Reads), Writes: rising(f.Writes)}, true
}

// rising has the places in order, each once.
func rising(l []api.Place) []api.Place {
	slices.SortFunc(l, func(a api.Place, b api.Place) int {
		return cmp.Or(a.Kind-b.Kind, a.I-b.I, a.J-b.J)
	})
	return slices.Compact(l)
}

// taken are the places of a cell that is taken back, and which cells are free.
func taken(cell int) []api.Place {
	return []api.Place{{Kind: api.PlHeap}, {Kind: api.PlHead, I: cell}, {Kind: api.PlField, I: cell}, {Kind: api.PlField, I: cell, J: 1}}
}

// atOnce are the places, if a store does not wait.
func (w world) atOnce(l ...api.Place) []api.Place {
	if w.c.Order == api.SC {
		return l
	}
	return nil
}

func (w world) microFoot(t int) api.Foot {
	switch w.s.Threads[t].Micro.Kind {
	case api.MiEnter:
		return api.Foot{Writes: w.atOnce(api.Place{Kind: api.PlMark, I: t})}
	case api.MiAdvance:
		return api.Foot{Reads: []api.Place{{Kind: api.PlEpoch}}, Writes: []api.Place{{Kind: api.PlEpoch}}}
	case api.MiRelease:
		f := api.Foot{Writes: []api.Place{{Kind: api.PlHeap}}}
		gone, _ := scheme.Release(w.c, w.s.Threads[t])
		for _, b := range gone {
			f.Writes = append(f.Writes, taken(b.Cell)...)
		}
		return f
	}
	return api.Foot{Reads: []api.Place{w.sees(t)}}
}

func (w world) instrFoot(t int) api.Foot {
	x, reg := w.instr(t), w.s.Threads[t].Regs
	field := func(v api.Word) api.Place { return api.Place{Kind: api.PlField, I: v.Cell, J: int(x.N)} }
	head := func(v api.Word) api.Place { return api.Place{Kind: api.PlHead, I: v.Cell} }
	root := api.Place{Kind: api.PlRoot, I: int(x.N)}
	switch x.Op {
	case api.OpLook:
		return api.Foot{Reads: []api.Place{{Kind: api.PlRoot, I: x.B}}}
	case api.OpPut:
		return api.Foot{Writes: w.atOnce(api.Place{Kind: api.PlRoot, I: x.A})}
	case api.OpSwap:
		return api.Foot{Reads: []api.Place{root}, Writes: []api.Place{root}}
	case api.OpNew:
		return api.Foot{Writes: []api.Place{{Kind: api.PlHeap}}}
	case api.OpGuard, api.OpClear:
		return api.Foot{Writes: w.atOnce(api.Place{Kind: api.PlSlot, I: t, J: int(x.N)})}
	case api.OpEnter:
		return api.Foot{Reads: []api.Place{{Kind: api.PlEpoch}}}
	case api.OpLeave:
		return api.Foot{Writes: w.atOnce(api.Place{Kind: api.PlMark, I: t})}
	case api.OpQuiet:
		return api.Foot{Writes: w.atOnce(api.Place{Kind: api.PlCount, I: t})}
	case api.OpLoad:
		if v := reg[x.B]; v.Cell > 0 {
			return api.Foot{Reads: []api.Place{head(v), field(v)}}
		}
	case api.OpStore:
		if v := reg[x.A]; v.Cell > 0 {
			return api.Foot{Reads: []api.Place{head(v)}, Writes: w.atOnce(field(v))}
		}
	case api.OpCas:
		if v := reg[x.A]; v.Cell > 0 {
			return api.Foot{Reads: []api.Place{head(v), field(v)}, Writes: []api.Place{field(v)}}
		}
	case api.OpFree:
		if v := reg[x.A]; v.Cell > 0 {
			return api.Foot{Writes: taken(v.Cell)}
		}
	case api.OpRetire:
		if v := reg[x.A]; v.Cell > 0 {
			return api.Foot{Writes: []api.Place{head(v)}}
		}
	}
	return api.Foot{}
}
