package act_test

import (
	"slices"
	"testing"

	"warrener/act"
	"warrener/api"
	"warrener/place"
	"warrener/prog"
)

// P27.1: each instruction, written out: thread 2, whose registers are four unlike words.
func TestInstrsOneByOne(t *testing.T) {
	first, second, third, fourth := api.Word{N: 2, Cell: 2, Gen: 3}, api.Word{N: 6, Cell: 6, Gen: 1}, api.Word{N: -9}, api.Word{N: 5, Cell: 5, Gen: 8}
	field := func(cell int, f int) api.Place { return api.Place{Kind: api.PlField, I: cell, J: f} }
	root := func(i int) api.Place { return api.Place{Kind: api.PlRoot, I: i} }
	slot := func(i int) api.Place { return api.Place{Kind: api.PlSlot, I: 2, J: i} }
	for _, x := range []struct {
		instr api.Instr
		want  api.Act
	}{
		{api.Instr{Op: api.OpHalt}, api.Act{Kind: api.ActLocal}},
		{api.Instr{Op: api.OpSet, A: 1, N: 7}, api.Act{Kind: api.ActLocal}},
		{api.Instr{Op: api.OpCopy, A: 1, B: 2}, api.Act{Kind: api.ActLocal}},
		{api.Instr{Op: api.OpAdd, A: 1, B: 2, C: 3}, api.Act{Kind: api.ActLocal}},
		{api.Instr{Op: api.OpSub, A: 1, B: 2, C: 3}, api.Act{Kind: api.ActLocal}},
		{api.Instr{Op: api.OpMul, A: 1, B: 2, C: 3}, api.Act{Kind: api.ActLocal}},
		{api.Instr{Op: api.OpDiv, A: 1, B: 2, C: 3}, api.Act{Kind: api.ActLocal}},
		{api.Instr{Op: api.OpJump, N: 1}, api.Act{Kind: api.ActLocal}},
		{api.Instr{Op: api.OpZero, A: 1, N: 1}, api.Act{Kind: api.ActLocal}},
		{api.Instr{Op: api.OpSame, A: 1, B: 2, N: 1}, api.Act{Kind: api.ActLocal}},
		{api.Instr{Op: api.OpLook, A: 1, B: 3}, api.Act{Kind: api.ActRead, Place: root(3)}},
		{api.Instr{Op: api.OpPut, A: 3, B: 1}, api.Act{Kind: api.ActWrite, Place: root(3), Word: second}},
		{api.Instr{Op: api.OpSwap, A: 3, B: 1, C: 2, N: 3}, api.Act{Kind: api.ActSwap, Place: root(3), Want: second, Word: third}},
		{api.Instr{Op: api.OpLoad, A: 1, B: 0, N: 1}, api.Act{Kind: api.ActRead, Place: field(2, 1), At: first, Gen: 3}},
		{api.Instr{Op: api.OpLoad, A: 0, B: 3}, api.Act{Kind: api.ActRead, Place: field(5, 0), At: fourth, Gen: 8}},
		{api.Instr{Op: api.OpLoad, A: 1, B: 2, N: 1}, api.Act{Kind: api.ActRead, At: third}},
		{api.Instr{Op: api.OpStore, A: 0, B: 1, N: 1}, api.Act{Kind: api.ActWrite, Place: field(2, 1), At: first, Word: second, Gen: 3}},
		{api.Instr{Op: api.OpStore, A: 2, B: 1, N: 1}, api.Act{Kind: api.ActWrite, At: third, Word: second}},
		{api.Instr{Op: api.OpCas, A: 0, B: 1, C: 2, N: 1}, api.Act{Kind: api.ActSwap, Place: field(2, 1), At: first, Want: second, Word: third, Gen: 3}},
		{api.Instr{Op: api.OpCas, A: 3, B: 2, C: 0}, api.Act{Kind: api.ActSwap, Place: field(5, 0), At: fourth, Want: third, Word: first, Gen: 8}},
		{api.Instr{Op: api.OpCas, A: 2, B: 1, C: 0, N: 1}, api.Act{Kind: api.ActSwap, At: third, Want: second, Word: first}},
		{api.Instr{Op: api.OpFence}, api.Act{Kind: api.ActFence}},
		{api.Instr{Op: api.OpNew, A: 1}, api.Act{Kind: api.ActAlloc}},
		{api.Instr{Op: api.OpFree, A: 1}, api.Act{Kind: api.ActFree, At: second}},
		{api.Instr{Op: api.OpFree, A: 2}, api.Act{Kind: api.ActFree, At: third}},
		{api.Instr{Op: api.OpRetire, A: 3}, api.Act{Kind: api.ActRetire, At: fourth}},
		{api.Instr{Op: api.OpGuard, A: 1, N: 1}, api.Act{Kind: api.ActWrite, Place: slot(1), Word: second}},
		{api.Instr{Op: api.OpGuard, A: 2}, api.Act{Kind: api.ActWrite, Place: slot(0), Word: third}},
		{api.Instr{Op: api.OpClear, N: 1}, api.Act{Kind: api.ActWrite, Place: slot(1)}},
		{api.Instr{Op: api.OpEnter}, api.Act{Kind: api.ActRead, Place: api.Place{Kind: api.PlEpoch}}},
		{api.Instr{Op: api.OpLeave}, api.Act{Kind: api.ActWrite, Place: api.Place{Kind: api.PlMark, I: 2}}},
		{api.Instr{Op: api.OpQuiet}, api.Act{Kind: api.ActWrite, Place: api.Place{Kind: api.PlCount, I: 2}, Word: api.Word{N: 42}}},
	} {
		holdOfIs(t, program(3, x.instr), 2, running([4]api.Word{first, second, third, fourth}), 41, x.want)
	}
}

// all are the instructions of that number with all operands that may be, in code of so many; any numbers are of a choice.
func all(op int, code int) []api.Instr {
	counts := map[byte]int{'r': 4, 'g': 4, 's': 2, 'f': 2, 't': code + 1, 'n': len(numbers), '-': 1}
	s := shapes[op]
	var l []api.Instr
	for a := range counts[s[0]] {
		for b := range counts[s[1]] {
			for c := range counts[s[2]] {
				for n := range counts[s[3]] {
					x := api.Instr{Op: op, A: a, B: b, C: c, N: int64(n)}
					if s[3] == 'n' {
						x.N = numbers[n]
					}
					l = append(l, x)
				}
			}
		}
	}
	return l
}

// P27.1: each instruction with all operands, of each thread, the words being unlike.
func TestInstrs(t *testing.T) {
	for op := 1; op <= 25; op++ {
		for _, x := range all(op, 1) {
			p := program(4, x)
			if prog.Check(p) != api.OK {
				t.Fatalf("%+v may not be", x)
			}
			for i := range 4 {
				holdOf(t, p, i, running(four(api.Word{N: 2, Cell: 2, Gen: 3})), 5)
			}
		}
	}
}

// P27.1: words of all kinds in each register: pointers of this life and of earlier ones, plain ones, and those that no call makes.
func TestWords(t *testing.T) {
	for op := 11; op <= 25; op++ {
		for _, x := range all(op, 1) {
			p := program(1, x)
			for _, w := range words() {
				regs := four(w)
				for range 4 {
					holdOf(t, p, 0, running(regs), 0)
					regs = [4]api.Word{regs[1], regs[2], regs[3], regs[0]}
				}
			}
		}
	}
}

// P27.1: what goes through a word has that word, and its life, whether there is such a cell or not; where it is no pointer, the place is empty.
func TestThrough(t *testing.T) {
	for _, x := range []struct {
		instr api.Instr
		kind  int
	}{
		{api.Instr{Op: api.OpLoad, A: 1, B: 0, N: 1}, api.ActRead},
		{api.Instr{Op: api.OpStore, A: 0, B: 1, N: 1}, api.ActWrite},
		{api.Instr{Op: api.OpCas, A: 0, B: 1, C: 2, N: 1}, api.ActSwap},
	} {
		for cells := range 7 {
			p := program(1, x.instr)
			p.Cells = cells
			for _, w := range words() {
				a := act.Of(p, 0, running(four(w)), 0)
				want := api.Place{}
				if w.Cell >= 1 {
					want = api.Place{Kind: api.PlField, I: w.Cell, J: 1}
				}
				if a.Kind != x.kind || a.At != w || a.Gen != w.Gen || a.Place != want {
					t.Fatalf("%+v through %+v, of %d cells: %+v", x.instr, w, cells, a)
				}
			}
		}
	}
}

// P27.1: what a thread puts somewhere else than into a cell has no life.
func TestNoLife(t *testing.T) {
	w := api.Word{N: 4, Cell: 4, Gen: 9}
	for _, op := range []int{api.OpPut, api.OpSwap, api.OpGuard, api.OpFree, api.OpRetire, api.OpLook} {
		for _, x := range all(op, 1) {
			if a := act.Of(program(1, x), 0, running([4]api.Word{w, w, w, w}), 0); a.Gen != 0 {
				t.Fatalf("%+v: %+v", x, a)
			}
		}
	}
}

// P27.1: of a count of any size quiet makes one more, gone round; nothing else asks for it.
func TestOwn(t *testing.T) {
	for _, x := range []struct{ own, want int64 }{{0, 1}, {1, 2}, {-1, 0}, {-2, -1}, {41, 42}, {most - 1, most}, {most, least}, {least, least + 1}, {1<<32 - 1, 1 << 32}} {
		for i := range 4 {
			want := api.Act{Kind: api.ActWrite, Place: api.Place{Kind: api.PlCount, I: i}, Word: api.Word{N: x.want}}
			holdOfIs(t, program(4, api.Instr{Op: api.OpQuiet}), i, running(four(api.Word{})), x.own, want)
		}
	}
	for _, own := range numbers {
		for op := 1; op <= 25; op++ {
			for _, x := range all(op, 1)[:1] {
				holdOf(t, program(2, x), 1, running(four(api.Word{N: 1, Cell: 1, Gen: 1})), own)
			}
		}
		for _, kind := range microKinds() {
			holdOf(t, program(2), 1, between(api.Micro{Kind: kind, N: 8}), own)
		}
	}
}

// P27.1: of several instructions that at which the thread is, of several threads the one that is asked for.
func TestWhich(t *testing.T) {
	p := program(3)
	for i := range p.Code {
		for pc := range 16 {
			p.Code[i] = append(p.Code[i], api.Instr{Op: api.OpLook, A: 1, B: (pc + i) % 4})
		}
	}
	for i := range 3 {
		for pc := range 16 {
			th := running(four(api.Word{}))
			th.Pc = pc
			holdOfIs(t, p, i, th, 0, api.Act{Kind: api.ActRead, Place: api.Place{Kind: api.PlRoot, I: (pc + i) % 4}})
		}
	}
}

// faulty are programs that may not be, each by one thing, wherever that stands.
func faulty() []api.Prog {
	good := func() api.Prog { return program(2, api.Instr{Op: api.OpNew}, api.Instr{Op: api.OpHalt}) }
	var l []api.Prog
	for _, n := range []int{-1, 7, 100, least, most} {
		roots, cells, slots := good(), good(), good()
		roots.Roots, cells.Cells, slots.Slots = n, n, n
		l = append(l, roots, cells, slots)
	}
	l = append(l, api.Prog{Roots: 5, Code: good().Code}, api.Prog{Slots: 3, Code: good().Code})
	for _, x := range []api.Instr{{}, {Op: -1}, {Op: 26}, {Op: most}, {Op: api.OpNew, A: 4}, {Op: api.OpNew, A: -1}, {Op: api.OpNew, N: 1}, {Op: api.OpLook, B: 4}, {Op: api.OpJump, N: 3}, {Op: api.OpLoad, N: 2}, {Op: api.OpGuard, N: 2}} {
		for i := range 2 {
			for pc := range 2 {
				p := good()
				p.Code[i][pc] = x
				l = append(l, p)
			}
		}
	}
	long := good()
	long.Code[1] = slices.Repeat([]api.Instr{{Op: api.OpHalt}}, 17)
	return append(l, long, program(0), program(5, api.Instr{Op: api.OpNew}), program(300), api.Prog{})
}

// P27.1, P1: of programs that may not be nothing is told, of whichever thread.
func TestFaulty(t *testing.T) {
	for _, p := range faulty() {
		if prog.Check(p) == api.OK {
			t.Fatalf("%+v may be", p)
		}
		for _, i := range append(ints(), 2, 3, 4, 5, 299) {
			for _, kind := range append(microKinds(), 0) {
				th := running(four(api.Word{N: 1, Cell: 1, Gen: 1}))
				th.Micro.Kind = kind
				holdOfIs(t, p, i, th, 1, api.Act{})
			}
		}
	}
}

// P27.1, P1: threads' numbers of any size: of those that are none nothing is told, with a micro neither.
func TestNumbers(t *testing.T) {
	for threads := 1; threads <= 4; threads++ {
		p := program(threads, api.Instr{Op: api.OpLeave})
		for _, i := range append(ints(), 1<<32+1, -1<<32+1, 257, -4, -5) {
			th, want, wantMicro := running(four(api.Word{})), api.Act{}, api.Act{}
			if i >= 0 && i < threads {
				want = api.Act{Kind: api.ActWrite, Place: api.Place{Kind: api.PlMark, I: i}}
				wantMicro = api.Act{Kind: api.ActRelease}
			}
			holdOfIs(t, p, i, th, 0, want)
			holdOfIs(t, p, i, between(api.Micro{Kind: api.MiRelease}), 0, wantMicro)
		}
	}
}

// P27.1, P1: a thread that is done does nothing, with a micro neither, if it does not run; one that runs with a micro is not done.
func TestDone(t *testing.T) {
	p := program(2, api.Instr{Op: api.OpNew}, api.Instr{Op: api.OpFence})
	for _, n := range ints() {
		for _, kind := range append(microKinds(), 0) {
			halted, spent, away := running(four(api.Word{})), running(four(api.Word{})), running(four(api.Word{}))
			halted.Status, spent.Fuel, away.Pc = n, n, n
			for _, th := range []api.Thread{halted, spent, away} {
				th.Micro = api.Micro{Kind: kind, N: 3}
				holdOf(t, p, 1, th, 0)
			}
		}
	}
	for _, th := range []api.Thread{{Fuel: 1, Status: api.Halted}, {Fuel: 1, Status: api.Trapped}, {Fuel: 0}, {Fuel: -1}, {Fuel: 1, Pc: 2}, {Fuel: 1, Pc: -1}} {
		holdOfIs(t, p, 0, th, 0, api.Act{})
		th.Status = max(th.Status, api.Halted)
		th.Micro.Kind = api.MiRelease
		holdOfIs(t, p, 0, th, 0, api.Act{})
	}
	holdOfIs(t, program(1), 0, api.Thread{Fuel: 1}, 0, api.Act{})
	holdOfIs(t, p, 0, api.Thread{Fuel: 1, Pc: 1}, 0, api.Act{Kind: api.ActFence})
}

// P27.1, P27.3: where a word is no way to the place, the place is one of the program's; a pointer leads to one, if there is such a cell.
func TestPlaces(t *testing.T) {
	c := chance(3)
	for range 20000 {
		p, th := c.prog(), c.thread()
		a := act.Of(p, c.next(len(p.Code)), th, c.number())
		if a.Place != (api.Place{}) && !place.Is(a.Place, p) && !(a.Place.Kind == api.PlField && a.At.Cell > p.Cells) {
			t.Fatalf("%+v is no place: %+v", a.Place, a)
		}
	}
}

// P27.1: programs, threads and counts of all kinds.
func TestOfAny(t *testing.T) {
	c := chance(1)
	for range 60000 {
		p, th := c.prog(), c.thread()
		if prog.Check(p) != api.OK {
			t.Fatalf("%+v may not be", p)
		}
		holdOf(t, p, c.next(6)-1, th, c.number())
	}
}
