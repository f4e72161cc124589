package thread_test

import (
	"testing"

	"warrener/api"
	"warrener/thread"
)

// run goes on till the thread is done, and answers it, and how many instructions it started; those that share it leaves out.
func run(t *testing.T, c api.Config, l []api.Instr) (api.Thread, int) {
	t.Helper()
	th := thread.Begin(c)
	for count := 0; ; count++ {
		x, ok := thread.Next(th, l)
		if ok == thread.Done(th, l) {
			t.Fatalf("with %+v and %v: done is %v, and there is a next one: %v", c, l, thread.Done(th, l), ok)
		}
		if !ok {
			return th, count
		}
		if count > 1000 {
			t.Fatalf("with %+v and %v it does not come to its end", c, l)
		}
		fuel := th.Fuel
		th, _ = thread.Local(thread.Start(th), x)
		if th.Fuel != fuel-1 {
			t.Fatalf("%+v took fuel from %d to %d", x, fuel, th.Fuel)
		}
	}
}

// runWants is what the page's words say of a whole run.
func runWants(c api.Config, l []api.Instr) (api.Thread, int) {
	th := api.Thread{Fuel: max(0, min(16, c.Fuel))}
	for count := 0; ; count++ {
		x, ok := nextWants(th, l)
		if !ok {
			return th, count
		}
		th, _ = localWants(startWants(th), x)
	}
}

// holdRun fails if a run is otherwise than the page says, or starts more instructions than there is fuel.
func holdRun(t *testing.T, c api.Config, l []api.Instr) {
	t.Helper()
	got, count := run(t, c, l)
	if want, wantCount := runWants(c, l); !same(got, want) || count != wantCount {
		t.Fatalf("with %+v, %v leads to %+v behind %d, want %+v behind %d", c, l, got, count, want, wantCount)
	}
	if fuel := max(0, min(api.MaxFuel, c.Fuel)); count > fuel || got.Fuel != fuel-count {
		t.Fatalf("with %+v, %v started %d, and has %d left", c, l, count, got.Fuel)
	}
}

// P25.3: whatever code goes round, each fuel is used up, and then it is done.
func TestFuelRunsOut(t *testing.T) {
	for _, l := range [][]api.Instr{
		{{Op: api.OpJump, N: 0}}, {{Op: api.OpZero, A: 0, N: 0}}, {{Op: api.OpSame, A: 0, B: 1, N: 0}}, {{Op: api.OpSame, A: 2, B: 2, N: 0}}, {{Op: api.OpZero, A: 4, N: 0}},
		{{Op: api.OpSet, A: 1, N: 1}, {Op: api.OpAdd, A: 0, B: 0, C: 1}, {Op: api.OpJump, N: 1}}, {{Op: api.OpFence}, {Op: api.OpJump, N: 0}}, {{Op: api.OpNew}, {Op: 0}, {Op: 26}, {Op: api.OpJump, N: 0}},
	} {
		for _, fuel := range fuels {
			c := api.Config{Scheme: api.Quiet, Order: api.TSO, Threshold: 1, Fuel: fuel, Depth: 1}
			want := max(0, min(16, fuel))
			if th, count := run(t, c, l); count != want || th.Fuel != 0 || th.Status != api.Running {
				t.Errorf("with fuel %d, %v started %d, want %d: %+v", fuel, l, count, want, th)
			}
		}
	}
}

// P25.3: it is done earlier behind its code's end, a jump beside it, and when it is halted.
func TestDoneEarlier(t *testing.T) {
	for _, x := range []struct {
		l             []api.Instr
		count, status int
	}{
		{nil, 0, api.Running}, {[]api.Instr{{Op: api.OpSet}}, 1, api.Running}, {[]api.Instr{{Op: api.OpHalt}, {Op: api.OpSet}}, 1, api.Halted}, {[]api.Instr{{Op: api.OpSet}, {Op: api.OpCopy}, {Op: api.OpHalt}}, 3, api.Halted},
		{[]api.Instr{{Op: api.OpDiv}, {Op: api.OpSet}}, 1, api.Halted}, {[]api.Instr{{Op: api.OpJump, N: 2}, {Op: api.OpSet}}, 1, api.Running}, {[]api.Instr{{Op: api.OpJump, N: -1}, {Op: api.OpSet}}, 1, api.Running},
		{[]api.Instr{{Op: api.OpZero, N: most}, {Op: api.OpSet}}, 1, api.Running}, {[]api.Instr{{Op: api.OpSame, N: least}, {Op: api.OpSet}}, 1, api.Running}, {[]api.Instr{{Op: api.OpJump, N: 1 << 32}, {Op: api.OpSet}}, 1, api.Running},
	} {
		th, count := run(t, api.Config{Fuel: 10}, x.l)
		if count != x.count || th.Status != x.status || th.Fuel != 10-count {
			t.Errorf("%v started %d, want %d: %+v", x.l, count, x.count, th)
		}
		holdRun(t, api.Config{Fuel: 10}, x.l)
	}
}

// P25.3: any code of instructions that share nothing, and any config.
func TestRunByChance(t *testing.T) {
	c := chance(9)
	for range 40000 {
		conf := api.Config{Scheme: c.one(4, statuses), Order: c.one(2, statuses), Threshold: c.one(9, places), Fuel: c.one(20, fuels), Depth: c.one(5, places)}
		holdRun(t, conf, c.code(16))
	}
}

// P25.3: code that goes round often, for its jumps are to places that it has.
func TestRunInLoops(t *testing.T) {
	c := chance(10)
	for range 20000 {
		l := c.code(6)
		for i := range l {
			if c.next(3) == 0 {
				l[i].Op = 8 + c.next(3)
			}
			if l[i].Op >= 8 {
				l[i].N = int64(c.next(len(l)))
			}
		}
		holdRun(t, api.Config{Fuel: c.next(18)}, l)
	}
}

// The chapter's example 1: set 0 5, and then copy 1 0: register 1 is 5.
func TestExample(t *testing.T) {
	th, count := run(t, api.Config{Fuel: 8}, []api.Instr{{Op: api.OpSet, A: 0, N: 5}, {Op: api.OpCopy, A: 1, B: 0}})
	if want := (api.Thread{Pc: 2, Fuel: 6, Regs: [4]api.Word{{N: 5}, {N: 5}}}); !same(th, want) || count != 2 {
		t.Fatalf("%+v behind %d, want %+v", th, count, want)
	}
	if got := thread.Get(th, 1); got != (api.Word{N: 5}) {
		t.Fatalf("register 1 is %+v", got)
	}
}
