package thread_test

import (
	"slices"
	"testing"

	"warrener/api"
	"warrener/thread"
)

// P25.1: Begin, written out: Fuel from 0 to 16, else the nearest; all else is a new thread's, whatever else the config says.
func TestBegin(t *testing.T) {
	for _, x := range []struct{ fuel, want int }{
		{0, 0}, {1, 1}, {2, 2}, {8, 8}, {15, 15}, {16, 16}, {17, 16}, {18, 16}, {100, 16}, {256, 16}, {257, 16}, {1 << 32, 16}, {most - 1, 16}, {most, 16},
		{-1, 0}, {-2, 0}, {-16, 0}, {-1 << 32, 0}, {-1<<32 + 3, 0}, {least + 1, 0}, {least, 0},
	} {
		for _, c := range []api.Config{
			{}, {Scheme: api.Hazard, Order: api.TSO, Threshold: 2, Depth: 3}, {Scheme: api.Epoch, Threshold: 8, Depth: 4}, {Scheme: api.Quiet, Order: api.TSO, Threshold: 1, Depth: 1},
			{Scheme: -1, Order: -1, Threshold: -1, Depth: -1}, {Scheme: most, Order: most, Threshold: most, Depth: most}, {Scheme: least, Order: least, Threshold: least, Depth: least},
		} {
			c.Fuel = x.fuel
			if got, want := thread.Begin(c), (api.Thread{Fuel: x.want}); !same(got, want) {
				t.Errorf("Begin(%+v) = %+v, want %+v", c, got, want)
			}
		}
	}
}

// P25.1: Begin, for each fuel from below none to beyond the most.
func TestBeginEach(t *testing.T) {
	for fuel := -40; fuel <= 40; fuel++ {
		if got, want := thread.Begin(api.Config{Fuel: fuel}), (api.Thread{Fuel: max(0, min(16, fuel))}); !same(got, want) {
			t.Errorf("Begin with fuel %d = %+v, want %+v", fuel, got, want)
		}
	}
}

// P25.1: Done and Next, written out.
func TestDoneOneByOne(t *testing.T) {
	for _, x := range []struct {
		name                   string
		status, kind, fuel, pc int
		code                   int
		done, next             bool
	}{
		{"it goes on", api.Running, api.MiNone, 1, 0, 1, false, true},
		{"with more fuel", api.Running, api.MiNone, 16, 0, 1, false, true},
		{"with more fuel than there may be", api.Running, api.MiNone, most, 0, 1, false, true},
		{"in the midst", api.Running, api.MiNone, 3, 1, 3, false, true},
		{"at the last", api.Running, api.MiNone, 3, 2, 3, false, true},
		{"behind the last", api.Running, api.MiNone, 3, 3, 3, true, false},
		{"ahead of the first", api.Running, api.MiNone, 3, -1, 3, true, false},
		{"at the greatest place", api.Running, api.MiNone, 3, most, 3, true, false},
		{"at the least place", api.Running, api.MiNone, 3, least, 3, true, false},
		{"without an instruction", api.Running, api.MiNone, 3, 0, 0, true, false},
		{"without fuel", api.Running, api.MiNone, 0, 0, 1, true, false},
		{"with less than none", api.Running, api.MiNone, -1, 0, 1, true, false},
		{"with the least fuel", api.Running, api.MiNone, least, 0, 1, true, false},
		{"without fuel and instruction", api.Running, api.MiNone, 0, 9, 1, true, false},
		{"halted", api.Halted, api.MiNone, 3, 0, 1, true, false},
		{"trapped", api.Trapped, api.MiNone, 3, 0, 1, true, false},
		{"of no such status", 3, api.MiNone, 3, 0, 1, true, false},
		{"of a status below", -1, api.MiNone, 3, 0, 1, true, false},
		{"with a micro", api.Running, api.MiGuards, 3, 0, 1, false, false},
		{"with a micro, without fuel", api.Running, api.MiDate, 0, 0, 1, false, false},
		{"with a micro, with less than none", api.Running, api.MiDate, -1, 0, 1, false, false},
		{"with a micro, behind the last", api.Running, api.MiRelease, 3, 1, 1, false, false},
		{"with a micro, ahead of the first", api.Running, api.MiRelease, 3, -1, 1, false, false},
		{"with a micro, without an instruction", api.Running, api.MiCounts, 3, 0, 0, false, false},
		{"with a micro, without all", api.Running, api.MiEnter, 0, 5, 0, false, false},
		{"with a micro that is none", api.Running, 9, 0, 0, 0, false, false},
		{"with a micro below", api.Running, -1, 0, 0, 0, false, false},
		{"halted, with a micro", api.Halted, api.MiMarks, 3, 0, 1, true, false},
		{"trapped, with a micro", api.Trapped, api.MiMarks, 3, 0, 1, true, false},
	} {
		th, l := api.Thread{Status: x.status, Fuel: x.fuel, Pc: x.pc, Micro: api.Micro{Kind: x.kind}}, code(x.code)
		if got := thread.Done(th, l); got != x.done {
			t.Errorf("%s: Done = %v", x.name, got)
		}
		var want api.Instr
		if x.next {
			want = l[x.pc]
		}
		if got, ok := thread.Next(th, l); ok != x.next || got != want {
			t.Errorf("%s: Next = %+v, %v, want %+v, %v", x.name, got, ok, want, x.next)
		}
	}
}

// codes are none, of one instruction, of several, of as many as may be, of more, and none that has room.
func codes() [][]api.Instr {
	return [][]api.Instr{nil, {}, code(3)[:0], code(3)[3:], code(1), code(2), code(3)[:2], code(5), code(16), code(17), code(300), make([]api.Instr, 4)}
}

// holdDone fails if Done or Next answers otherwise than the page says.
func holdDone(t *testing.T, th api.Thread, l []api.Instr) {
	t.Helper()
	if got, want := thread.Done(th, l), doneWants(th, l); got != want {
		t.Fatalf("Done(%+v, of %d) = %v, want %v", th, len(l), got, want)
	}
	want, wantOk := nextWants(th, l)
	if got, ok := thread.Next(th, l); ok != wantOk || got != want {
		t.Fatalf("Next(%+v, of %d) = %+v, %v, want %+v, %v", th, len(l), got, ok, want, wantOk)
	}
}

// P25.1: Done and Next for each status, kind of micro, fuel and place, with code of all lengths.
func TestDoneAll(t *testing.T) {
	for _, l := range codes() {
		for _, status := range statuses {
			for _, kind := range kinds {
				for _, fuel := range []int{0, 1, 2, 16, 17, 256, 1 << 32, -1, -2, least, least + 1, most} {
					for _, pc := range append(places, len(l)-2, len(l)-1, len(l), len(l)+1) {
						holdDone(t, api.Thread{Status: status, Fuel: fuel, Pc: pc, Micro: api.Micro{Kind: kind}}, l)
					}
				}
			}
		}
	}
}

// P25.1: what else a thread has does not matter, nor does which instructions the code has; what a micro has beside its kind does not make it one.
func TestDoneElse(t *testing.T) {
	c := chance(1)
	for range 20000 {
		th, l := c.thread(), code(c.next(8))
		holdDone(t, th, l)
		done := thread.Done(th, l)
		other := c.thread()
		other.Status, other.Fuel, other.Pc, other.Micro.Kind = th.Status, th.Fuel, th.Pc, th.Micro.Kind
		if thread.Done(other, make([]api.Instr, len(l))) != done {
			t.Fatalf("Done hangs on something else: %+v and %+v, of %d", th, other, len(l))
		}
		holdDone(t, other, l)
	}
	for _, m := range []api.Micro{{I: 1}, {I: -1}, {N: 1}, {Seen: []int64{0}}, {I: 3, N: 4, Seen: []int64{5, 6}}} {
		th := api.Thread{Fuel: 1, Micro: m}
		if _, ok := thread.Next(th, code(1)); !ok || thread.Done(th, code(1)) {
			t.Errorf("%+v is no micro, but hinders the thread", m)
		}
		th.Fuel = 0
		if !thread.Done(th, code(1)) {
			t.Errorf("%+v is no micro, but the thread without fuel is not done", m)
		}
	}
}

// P25.1: Next answers all parts of an instruction, whatever it is; Done and Next turn no code.
func TestNextInstr(t *testing.T) {
	c := chance(2)
	for range 5000 {
		l := make([]api.Instr, c.next(20)+1)
		for i := range l {
			l[i] = c.instr()
		}
		was, pc := slices.Concat(l), c.next(len(l))
		th := running(pc, c.next(3)+1)
		if got, ok := thread.Next(th, l); !ok || got != was[pc] {
			t.Fatalf("Next at %d = %+v, %v, want %+v", pc, got, ok, was[pc])
		}
		if thread.Done(th, l) || !slices.Equal(l, was) {
			t.Fatalf("done at %d of %d, or the code was turned: %v was %v", pc, len(l), l, was)
		}
	}
}

// P25.1: Start, written out.
func TestStartOneByOne(t *testing.T) {
	for _, x := range []struct{ fuel, pc, wantFuel, wantPc int }{
		{16, 0, 15, 1}, {1, 3, 0, 4}, {0, 0, -1, 1}, {-1, -1, -2, 0}, {17, 16, 16, 17}, {2, -2, 1, -1}, {1 << 32, 1<<32 - 1, 1<<32 - 1, 1 << 32},
		{least, 0, most, 1}, {least + 1, 0, least, 1}, {most, 0, most - 1, 1}, {0, most, -1, least}, {0, most - 1, -1, most}, {0, least, -1, least + 1}, {least, most, most, least}, {most, least, most - 1, least + 1},
	} {
		th := busy()
		th.Fuel, th.Pc = x.fuel, x.pc
		want := copied(th)
		want.Fuel, want.Pc = x.wantFuel, x.wantPc
		if got := thread.Start(th); !same(got, want) {
			t.Errorf("Start(%+v) = %+v, want %+v", th, got, want)
		}
	}
}

// P25.1: Start at each fuel and place, of threads of each status, with a micro or none: all else is as it was.
func TestStartAll(t *testing.T) {
	c := chance(3)
	for _, fuel := range fuels {
		for _, pc := range places {
			for _, th := range []api.Thread{{}, busy(), running(0, 0), c.thread(), c.thread()} {
				th.Fuel, th.Pc = fuel, pc
				was := copied(th)
				if got, want := thread.Start(th), startWants(was); !same(got, want) || !same(th, was) {
					t.Fatalf("Start(%+v) = %+v, want %+v; it came in as %+v", th, got, want, was)
				}
			}
		}
	}
}

// P25.1: Get, written out: each register, and those that there are not.
func TestGetOneByOne(t *testing.T) {
	w := [4]api.Word{{N: 10, Cell: 1, Gen: 2}, {N: -11}, {N: most, Cell: -3, Gen: least}, {N: 4, Cell: 4, Gen: 1}}
	th := holding(w[:]...)
	for _, x := range []struct {
		r    int
		want api.Word
	}{{0, w[0]}, {1, w[1]}, {2, w[2]}, {3, w[3]}, {-1, api.Word{}}, {4, api.Word{}}, {5, api.Word{}}, {1 << 32, api.Word{}}, {least, api.Word{}}, {most, api.Word{}}} {
		if got := thread.Get(th, x.r); got != x.want {
			t.Errorf("Get(.., %d) = %+v, want %+v", x.r, got, x.want)
		}
	}
}

// P25.1: Get and Set for each register and each word, in threads of all kinds; what is set is got, and nothing else is turned.
func TestSetAll(t *testing.T) {
	c := chance(4)
	for _, r := range registers {
		for _, w := range words() {
			for _, th := range []api.Thread{{}, busy(), c.thread()} {
				was := copied(th)
				got, want := thread.Set(th, r, w), setWants(was, r, w)
				if !same(got, want) || !same(th, was) {
					t.Fatalf("Set(%+v, %d, %+v) = %+v, want %+v; it came in as %+v", th, r, w, got, want, was)
				}
				holdGets(t, got, want)
			}
		}
	}
}

// holdGets fails if a register of got is not that of want, which the page says.
func holdGets(t *testing.T, got api.Thread, want api.Thread) {
	t.Helper()
	for _, r := range registers {
		if w := thread.Get(got, r); w != getWants(want, r) {
			t.Fatalf("Get(%+v, %d) = %+v, want %+v", got, r, w, getWants(want, r))
		}
	}
}

// P25.1: Set, written out: where there is no such register, the thread is as it was.
func TestSetOneByOne(t *testing.T) {
	w := api.Word{N: 9, Cell: 9, Gen: 8}
	for r := range 4 {
		want := busy()
		want.Regs[r] = w
		if got := thread.Set(busy(), r, w); !same(got, want) {
			t.Errorf("Set(.., %d, %+v) = %+v, want %+v", r, w, got, want)
		}
	}
	for _, r := range noRegisters {
		if got := thread.Set(busy(), r, w); !same(got, busy()) {
			t.Errorf("Set(.., %d, %+v) = %+v, but there is no such register", r, w, got)
		}
	}
}

// P25.1: Clone answers the same thread, whichever it is.
func TestClone(t *testing.T) {
	c := chance(5)
	all := []api.Thread{{}, busy(), running(least, most), {Micro: api.Micro{Seen: []int64{}}, Bag: []api.Bagged{}, Snap: []int64{}}}
	for range 3000 {
		all = append(all, c.thread())
	}
	for _, th := range all {
		was := copied(th)
		if got := thread.Clone(th); !same(got, was) || !same(th, was) {
			t.Fatalf("Clone(%+v) = %+v; it came in as %+v", th, got, was)
		}
	}
}
