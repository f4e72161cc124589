package thread_test

import (
	"slices"
	"testing"

	"warrener/api"
	"warrener/op"
	"warrener/thread"
)

// plain is the word of a number.
func plain(n int64) api.Word {
	return api.Word{N: n}
}

// P25.2: set and copy, written out.
func TestSetAndCopy(t *testing.T) {
	pointer := api.Word{N: 2, Cell: 2, Gen: 5}
	th := holding(plain(7), pointer, plain(-1), api.Word{N: 3, Cell: -4, Gen: 9})
	for _, x := range []struct {
		x    api.Instr
		r    int
		want api.Word
	}{
		{api.Instr{Op: api.OpSet, A: 0, N: 5}, 0, plain(5)}, {api.Instr{Op: api.OpSet, A: 3, N: 0}, 3, plain(0)}, {api.Instr{Op: api.OpSet, A: 1, N: 2}, 1, plain(2)},
		{api.Instr{Op: api.OpSet, A: 2, N: least}, 2, plain(least)}, {api.Instr{Op: api.OpSet, A: 2, N: most}, 2, plain(most)}, {api.Instr{Op: api.OpSet, A: 1, B: 3, C: 2, N: -1}, 1, plain(-1)},
		{api.Instr{Op: api.OpCopy, A: 0, B: 1}, 0, pointer}, {api.Instr{Op: api.OpCopy, A: 1, B: 0}, 1, plain(7)}, {api.Instr{Op: api.OpCopy, A: 0, B: 3}, 0, api.Word{N: 3, Cell: -4, Gen: 9}},
		{api.Instr{Op: api.OpCopy, A: 1, B: 1}, 1, pointer}, {api.Instr{Op: api.OpCopy, A: 3, B: 2, C: 1, N: 9}, 3, plain(-1)},
		{api.Instr{Op: api.OpCopy, A: 1, B: 4}, 1, plain(0)}, {api.Instr{Op: api.OpCopy, A: 2, B: -1}, 2, plain(0)}, {api.Instr{Op: api.OpCopy, A: 0, B: most}, 0, plain(0)}, {api.Instr{Op: api.OpCopy, A: 0, B: least}, 0, plain(0)},
		{api.Instr{Op: api.OpSet, A: -1, N: 5}, -1, plain(0)}, {api.Instr{Op: api.OpSet, A: 4, N: 5}, 4, plain(0)}, {api.Instr{Op: api.OpSet, A: most, N: 5}, 4, plain(0)}, {api.Instr{Op: api.OpSet, A: least, N: 5}, 4, plain(0)},
		{api.Instr{Op: api.OpCopy, A: -1, B: 1}, -1, plain(0)}, {api.Instr{Op: api.OpCopy, A: 4, B: 1}, 4, plain(0)}, {api.Instr{Op: api.OpCopy, A: most, B: least}, 4, plain(0)},
	} {
		want := copied(th)
		if x.r >= 0 && x.r < 4 {
			want.Regs[x.r] = x.want
		}
		holdLocalIs(t, th, x.x, want, true)
	}
}

// P25.2: add to div, written out: plain words, whatever the registers point to; gone round; cut towards 0.
func TestReckonOneByOne(t *testing.T) {
	for _, x := range []struct {
		op         int
		b, c, want int64
	}{
		{api.OpAdd, 2, 3, 5}, {api.OpAdd, 2, -3, -1}, {api.OpAdd, most, 1, least}, {api.OpAdd, least, -1, most}, {api.OpAdd, least, least, 0}, {api.OpAdd, 0, 0, 0},
		{api.OpSub, 2, 3, -1}, {api.OpSub, 3, 2, 1}, {api.OpSub, least, 1, most}, {api.OpSub, most, -1, least}, {api.OpSub, 0, least, least}, {api.OpSub, 7, 7, 0},
		{api.OpMul, 6, -7, -42}, {api.OpMul, 0, 9, 0}, {api.OpMul, 1 << 32, 1 << 32, 0}, {api.OpMul, most, 2, -2}, {api.OpMul, least, -1, least}, {api.OpMul, 1 << 32, 1 << 31, least},
		{api.OpDiv, 7, 2, 3}, {api.OpDiv, -7, 2, -3}, {api.OpDiv, 7, -2, -3}, {api.OpDiv, -7, -2, 3}, {api.OpDiv, 0, 5, 0}, {api.OpDiv, 2, 3, 0}, {api.OpDiv, 5, -1, -5}, {api.OpDiv, least, -1, least}, {api.OpDiv, most, -1, least + 1}, {api.OpDiv, least, least, 1},
	} {
		for _, w := range [][2]api.Word{{plain(x.b), plain(x.c)}, {{N: x.b, Cell: 2, Gen: 1}, {N: x.c, Cell: 3, Gen: 4}}, {plain(x.b), {N: x.c, Cell: 1, Gen: 1}}} {
			th := holding(plain(9), w[0], w[1], plain(8))
			for _, a := range registers {
				holdLocalIs(t, th, api.Instr{Op: x.op, A: a, B: 1, C: 2}, setWants(th, a, plain(x.want)), true)
				holdLocalIs(t, th, api.Instr{Op: x.op, A: a, B: 1, C: 2, N: 77}, setWants(th, a, plain(x.want)), true)
			}
		}
	}
}

// P25.2: div by 0, of a register or of none: it is halted, and all else is as it was, its registers too.
func TestDivByZero(t *testing.T) {
	for _, zero := range []api.Word{plain(0), {N: 0, Cell: 3, Gen: 1}, {N: 0, Cell: -1, Gen: 1}} {
		for _, b := range words() {
			th := holding(plain(9), b, zero, plain(5))
			want := copied(th)
			want.Status = api.Halted
			for _, a := range registers {
				holdLocalIs(t, th, api.Instr{Op: api.OpDiv, A: a, B: 1, C: 2, N: 3}, want, true)
				holdLocalIs(t, th, api.Instr{Op: api.OpDiv, A: a, B: 2, C: 2}, want, true)
				holdLocalIs(t, th, api.Instr{Op: api.OpDiv, A: a, B: 3, C: 4}, want, true)
				holdLocalIs(t, th, api.Instr{Op: api.OpDiv, A: a, B: -1, C: least}, want, true)
			}
		}
	}
}

// P25.2: A, B and C the same register, and two of them the same; what is read is what was there ahead.
func TestReckonSameRegisters(t *testing.T) {
	th := holding(plain(12), plain(5), plain(-3), plain(2))
	for _, x := range []struct {
		x    api.Instr
		want int64
	}{
		{api.Instr{Op: api.OpAdd, A: 0, B: 0, C: 0}, 24}, {api.Instr{Op: api.OpSub, A: 0, B: 0, C: 0}, 0}, {api.Instr{Op: api.OpMul, A: 0, B: 0, C: 0}, 144}, {api.Instr{Op: api.OpDiv, A: 0, B: 0, C: 0}, 1},
		{api.Instr{Op: api.OpAdd, A: 1, B: 1, C: 2}, 2}, {api.Instr{Op: api.OpSub, A: 1, B: 1, C: 2}, 8}, {api.Instr{Op: api.OpMul, A: 1, B: 1, C: 2}, -15}, {api.Instr{Op: api.OpDiv, A: 1, B: 1, C: 2}, -1},
		{api.Instr{Op: api.OpAdd, A: 2, B: 1, C: 2}, 2}, {api.Instr{Op: api.OpSub, A: 2, B: 1, C: 2}, 8}, {api.Instr{Op: api.OpMul, A: 2, B: 1, C: 2}, -15}, {api.Instr{Op: api.OpDiv, A: 3, B: 0, C: 3}, 6},
		{api.Instr{Op: api.OpAdd, A: 3, B: 1, C: 1}, 10}, {api.Instr{Op: api.OpSub, A: 3, B: 0, C: 1}, 7}, {api.Instr{Op: api.OpMul, A: 3, B: 3, C: 3}, 4}, {api.Instr{Op: api.OpDiv, A: 2, B: 0, C: 1}, 2},
		{api.Instr{Op: api.OpAdd, A: 0, B: 4, C: 1}, 5}, {api.Instr{Op: api.OpSub, A: 0, B: -1, C: 1}, -5}, {api.Instr{Op: api.OpSub, A: 0, B: 1, C: 4}, 5}, {api.Instr{Op: api.OpMul, A: 0, B: 1, C: -1}, 0}, {api.Instr{Op: api.OpDiv, A: 0, B: most, C: 1}, 0}, {api.Instr{Op: api.OpAdd, A: 0, B: least, C: most}, 0},
	} {
		holdLocalIs(t, th, x.x, setWants(th, x.x.A, plain(x.want)), true)
	}
}

// P25.2: jump, zero and same, taken and not, written out.
func TestJumpsOneByOne(t *testing.T) {
	regs := []api.Word{plain(0), {N: 0, Cell: 2, Gen: 1}, plain(5), {N: 5, Cell: 5, Gen: 2}}
	for _, x := range []struct {
		x     api.Instr
		taken bool
	}{
		{api.Instr{Op: api.OpJump}, true}, {api.Instr{Op: api.OpJump, A: 2, B: 3, C: 1}, true}, {api.Instr{Op: api.OpJump, A: -1, B: 4, C: most}, true},
		{api.Instr{Op: api.OpZero, A: 0}, true}, {api.Instr{Op: api.OpZero, A: 1}, true}, {api.Instr{Op: api.OpZero, A: 2}, false}, {api.Instr{Op: api.OpZero, A: 3}, false}, {api.Instr{Op: api.OpZero, A: 2, B: 0}, false}, {api.Instr{Op: api.OpZero, A: 0, B: 2, C: 2}, true},
		{api.Instr{Op: api.OpZero, A: -1}, true}, {api.Instr{Op: api.OpZero, A: 4}, true}, {api.Instr{Op: api.OpZero, A: most}, true}, {api.Instr{Op: api.OpZero, A: least}, true},
		{api.Instr{Op: api.OpSame, A: 0, B: 1}, true}, {api.Instr{Op: api.OpSame, A: 2, B: 3}, true}, {api.Instr{Op: api.OpSame, A: 3, B: 2}, true}, {api.Instr{Op: api.OpSame, A: 0, B: 2}, false}, {api.Instr{Op: api.OpSame, A: 3, B: 1}, false}, {api.Instr{Op: api.OpSame, A: 2, B: 0, C: 2}, false},
		{api.Instr{Op: api.OpSame, A: 2, B: 2}, true}, {api.Instr{Op: api.OpSame, A: 3, B: 3}, true}, {api.Instr{Op: api.OpSame, A: 4, B: -1}, true}, {api.Instr{Op: api.OpSame, A: 0, B: 4}, true}, {api.Instr{Op: api.OpSame, A: -1, B: 1}, true}, {api.Instr{Op: api.OpSame, A: 4, B: 2}, false}, {api.Instr{Op: api.OpSame, A: 3, B: least}, false},
	} {
		for _, n := range numbers {
			th := holding(regs...)
			x.x.N = n
			want := copied(th)
			if x.taken {
				want.Pc = int(n)
			}
			holdLocalIs(t, th, x.x, want, true)
		}
	}
}

// P25.2: zero and same go by the numbers alone: of words of all kinds, those that point elsewhere, or to another life, are equal.
func TestJumpsByNumber(t *testing.T) {
	for _, a := range words() {
		for _, b := range words() {
			th := holding(a, b)
			want := copied(th)
			if a.N == b.N {
				want.Pc = 11
			}
			holdLocalIs(t, th, api.Instr{Op: api.OpSame, A: 0, B: 1, N: 11}, want, true)
		}
		th := holding(plain(1), plain(1), a, plain(1))
		want := copied(th)
		if a.N == 0 {
			want.Pc = 12
		}
		holdLocalIs(t, th, api.Instr{Op: api.OpZero, A: 2, N: 12}, want, true)
	}
}

// P25.2: halt, whatever stands in its operands, and whichever status there was.
func TestHalt(t *testing.T) {
	for _, status := range statuses {
		for _, x := range []api.Instr{{}, {A: 1, B: 2, C: 3, N: 4}, {A: -1, B: 4, C: most, N: least}} {
			th := busy()
			th.Status = status
			want := copied(th)
			want.Status, x.Op = api.Halted, api.OpHalt
			holdLocalIs(t, th, x, want, true)
		}
	}
}

// P25.2: fence, what shares, and numbers that are none: as it was, and false.
func TestOthersStay(t *testing.T) {
	c := chance(6)
	for _, number := range slices.Concat(others, noOps()) {
		for range 40 {
			x, th := c.instr(), c.thread()
			x.Op = number
			holdLocalIs(t, th, x, copied(th), false)
			holdLocalIs(t, busy(), x, busy(), false)
		}
	}
}

// P25.2: Local is true of just those that chapter 9 has a name for, and that share nothing, but fence.
func TestLocalAsShares(t *testing.T) {
	for number := -300; number <= 300; number++ {
		want := op.Name(number) != "" && !op.Shares(number) && op.Name(number) != "fence"
		if _, got := thread.Local(busy(), api.Instr{Op: number}); got != want {
			t.Errorf("Local of %d (%q) = %v", number, op.Name(number), got)
		}
	}
}

// P25.2: each instruction with each A and B, some C, and numbers of all sizes, in threads of all kinds.
func TestLocalRegisters(t *testing.T) {
	c := chance(7)
	for _, number := range slices.Concat(locals, []int{0, 11, 16, 17, 18, 25, 26}) {
		for _, a := range registers {
			for _, b := range registers {
				for _, third := range []int{0, 1, 2, 3, -1, 4, a, b, most, least} {
					x := api.Instr{Op: number, A: a, B: b, C: third, N: c.number()}
					holdLocal(t, busy(), x)
					holdLocal(t, c.thread(), x)
				}
			}
		}
	}
}

// P25.2: add to div, zero and same of each two words.
func TestLocalWords(t *testing.T) {
	for _, b := range words() {
		for _, c := range words() {
			th := holding(plain(3), b, c, plain(4))
			for _, number := range []int{3, 4, 5, 6, 7, 9, 10} {
				holdLocal(t, th, api.Instr{Op: number, A: 0, B: 1, C: 2, N: 5})
				holdLocal(t, th, api.Instr{Op: number, A: 1, B: 2, C: 1, N: -5})
				holdLocal(t, th, api.Instr{Op: number, A: 2, B: 1, C: 2, N: 6})
			}
		}
	}
}

// P25.2: many by chance.
func TestLocalByChance(t *testing.T) {
	c := chance(8)
	for range 200000 {
		holdLocal(t, c.thread(), c.instr())
	}
}

// P25.2: Local goes by what it is handed: neither the thread's status, nor its fuel, nor its micro hinders it.
func TestLocalElse(t *testing.T) {
	for _, status := range statuses {
		for _, kind := range kinds {
			for _, fuel := range []int{0, 1, 16, -1, least, most} {
				for _, number := range locals {
					th := busy()
					th.Status, th.Micro.Kind, th.Fuel = status, kind, fuel
					holdLocal(t, th, api.Instr{Op: number, A: 1, B: 2, C: 3, N: 4})
					holdLocal(t, th, api.Instr{Op: number, A: 1, B: 2, C: 4, N: 4})
				}
			}
		}
	}
}
