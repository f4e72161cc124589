package machine_test

import (
	"testing"

	"warrener/api"
)

// run is a program, and how it is run.
type run struct {
	p api.Prog
	c api.Config
}

// smalls are programs that are small enough for all their schedules to be gone through: of each scheme and order, with each kind of instruction, and with each kind of what may be wrong.
func smalls(t *testing.T) []run {
	t.Helper()
	one := func(c string, much string, threads ...string) run {
		return run{p: program(t, much, threads...), c: config(t, c)}
	}
	return []run{
		one("manual sc 1 8 1", "0 1 0", "new 0; free 0; free 0"),
		one("manual sc 1 8 1", "1 1 0", "new 0; put 0 0; free 0", "look 1 0; load 2 1 0"),
		one("manual tso 1 8 2", "1 1 0", "new 0; put 0 0; free 0", "look 1 0; store 1 1 0; fence"),
		one("manual sc 1 8 1", "1 1 0", "new 0; swap 1 2 0 0; free 0; new 0", "look 1 0; new 2; swap 3 1 2 0"),
		one("manual sc 1 4 1", "0 0 0", "set 0 1; set 0 2", "set 0 1; jump 1", "set 0 3"),
		one("manual tso 1 4 1", "2 0 0", "set 0 1; put 0 0; look 1 1", "set 0 1; put 1 0; look 1 0"),
		one("manual tso 1 5 2", "1 0 0", "set 0 1; put 0 0; swap 1 0 2 0", "look 0 0; put 0 1; fence"),
		one("hazard sc 1 6 1", "1 1 1", "new 0; put 0 0; put 0 1; retire 0", "look 0 0; guard 0 0; load 1 0 0"),
		one("hazard tso 1 6 2", "1 1 1", "new 0; put 0 0; retire 0", "look 0 0; guard 0 0; load 1 0 0"),
		one("hazard sc 2 6 1", "0 2 0", "new 0; retire 0", "new 0; new 1; retire 0; free 1"),
		one("hazard sc 1 6 1", "0 2 2", "new 0; retire 0", "guard 0 1; new 1; clear 1"),
		one("epoch sc 1 5 1", "0 1 0", "new 0; retire 0; enter; leave", "enter; new 0; leave"),
		one("epoch tso 1 3 1", "0 1 0", "enter; new 0; retire 0", "enter; leave"),
		one("epoch sc 1 6 1", "0 2 0", "new 0; new 1; retire 0; retire 1; halt", "enter"),
		one("quiet sc 1 6 1", "0 1 0", "new 0; retire 0; quiet; quiet", "quiet; quiet"),
		one("quiet tso 1 4 2", "0 1 0", "quiet; new 0; retire 0; quiet", "quiet"),
		one("quiet sc 2 6 1", "0 2 0", "new 0; retire 0; new 1; retire 1; quiet", "quiet; halt"),
		one("manual sc 1 6 1", "1 2 0", "new 0; set 1 1; store 0 1 0; put 0 0", "look 0 0; cas 0 1 2 0", "look 0 0; retire 0"),
		one("manual tso 1 6 2", "1 1 0", "new 0; put 0 0; store 0 1 1; fence", "look 0 0; free 0; new 1; put 0 1"),
		one("manual sc 1 6 1", "1 1 0", "div 0 0 0", "new 0; zero 0 3; halt", "look 0 0; free 0"),
		one("manual sc 1 3 1", "1 2 0", "new 0; cas 0 0 0 0", "new 0; put 0 0; retire 0", "look 0 0; retire 0; load 0 0 1"),
	}
}

// op is any instruction, those that go through pointers, and those by which others come to them, more often.
func (c *chance) op() int {
	often := []int{api.OpNew, api.OpPut, api.OpPut, api.OpLook, api.OpFree, api.OpRetire, api.OpRetire, api.OpLoad, api.OpStore, api.OpStore, api.OpCas, api.OpSwap, api.OpSwap, api.OpSet, api.OpGuard, api.OpEnter, api.OpQuiet}
	if i := c.next(len(often) + 10); i < len(often) {
		return often[i]
	}
	return c.next(25) + 1
}

// pointer is a register that mostly has one.
func (c *chance) pointer() int {
	if c.next(16) == 0 {
		return c.next(4)
	}
	return c.next(2)
}

// number is a register that mostly has none.
func (c *chance) number() int {
	if c.next(16) == 0 {
		return c.next(4)
	}
	return c.next(2) + 2
}

// instr is any instruction that may be in a program of at least one root and slot, in code of so many.
func (c *chance) instr(p api.Prog, long int) api.Instr {
	x := api.Instr{Op: c.op()}
	switch x.Op {
	case api.OpSet:
		x.A, x.N = c.number(), int64(c.next(3))
	case api.OpCopy:
		x.A, x.B = c.number(), c.next(4)
	case api.OpAdd, api.OpSub, api.OpMul, api.OpDiv:
		x.A, x.B, x.C = c.number(), c.next(4), c.pointer()
	case api.OpJump:
		x.N = int64(c.next(long + 1))
	case api.OpZero:
		x.A, x.N = c.number(), int64(c.next(long+1))
	case api.OpSame:
		x.A, x.B, x.N = c.next(4), c.next(4), int64(c.next(long+1))
	case api.OpLook:
		x.A, x.B = c.number(), c.next(p.Roots)
	case api.OpPut:
		x.A, x.B = c.next(p.Roots), c.pointer()
	case api.OpSwap:
		x.A, x.B, x.C, x.N = c.number(), c.next(4), c.pointer(), int64(c.next(p.Roots))
	case api.OpLoad:
		x.A, x.B, x.N = c.number(), c.pointer(), int64(c.next(2))
	case api.OpStore:
		x.A, x.B, x.N = c.pointer(), c.next(4), int64(c.next(2))
	case api.OpCas:
		x.A, x.B, x.C, x.N = c.pointer(), c.next(4), c.next(4), int64(c.next(2))
	case api.OpNew, api.OpFree, api.OpRetire:
		x.A = c.pointer()
	case api.OpGuard:
		x.A, x.N = c.pointer(), int64(c.next(p.Slots))
	case api.OpClear:
		x.N = int64(c.next(p.Slots))
	}
	return x
}

// code is that of a thread, which mostly begins with cells of its own, or with another one's.
func (c *chance) code(p api.Prog, long int) []api.Instr {
	var l []api.Instr
	root := c.next(2) * c.next(p.Roots)
	switch c.next(8) {
	case 0, 1, 2:
		l = []api.Instr{{Op: api.OpNew}, {Op: api.OpPut, A: root}, {Op: api.OpNew, A: 1}}
	case 3:
		l = []api.Instr{{Op: api.OpNew}, {Op: api.OpNew, A: 1}}
	case 4, 5:
		l = []api.Instr{{Op: api.OpLook, B: root}, {Op: api.OpZero}, {Op: api.OpCopy, A: 1}}
	case 6:
		l = []api.Instr{{Op: api.OpNew}, {Op: api.OpCopy, A: 1}, {Op: api.OpPut, A: root}}
	}
	much := max(c.next(long+1), c.next(long+1))
	for len(l) < much {
		l = append(l, c.instr(p, much))
	}
	return l[:much]
}

// any is any program and config, of at most so many instructions of each thread.
func (c *chance) any(long int) run {
	p := api.Prog{Roots: c.next(4) + 1, Cells: max(c.next(7), c.next(7)), Slots: c.next(2) + 1}
	for range c.next(4) + 1 {
		p.Code = append(p.Code, c.code(p, long))
	}
	return run{p: p, c: api.Config{Scheme: c.next(4), Order: c.next(2), Threshold: c.next(3) + 1, Fuel: max(c.next(17), c.next(17)), Depth: c.next(4) + 1}}
}
