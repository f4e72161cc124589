package replay_test

import (
	"testing"

	"warrener/api"
	"warrener/conf"
	"warrener/prog"
	"warrener/replay"
)

// plainConfig is one that may be.
var plainConfig = api.Config{Threshold: 1, Fuel: 4, Depth: 1}

// wrongProg is a program that may not be, with 11's error.
type wrongProg struct {
	p api.Prog
	e api.Errno
}

// wrongProgs are some of each of 11's errors, and of two of them at once.
func wrongProgs() []wrongProg {
	one := func(l ...api.Instr) [][]api.Instr { return [][]api.Instr{l} }
	return []wrongProg{
		{api.Prog{}, api.ErrMany},
		{api.Prog{Code: [][]api.Instr{}}, api.ErrMany},
		{api.Prog{Code: make([][]api.Instr, 5)}, api.ErrMany},
		{api.Prog{Code: make([][]api.Instr, 257)}, api.ErrMany},
		{api.Prog{Code: one(make([]api.Instr, 17)...)}, api.ErrMany},
		{api.Prog{Code: [][]api.Instr{{{Op: 99}}, make([]api.Instr, 17)}}, api.ErrMany},
		{api.Prog{Roots: 5, Code: one()}, api.ErrRange},
		{api.Prog{Roots: -1, Code: one()}, api.ErrRange},
		{api.Prog{Cells: 7, Code: one()}, api.ErrRange},
		{api.Prog{Cells: least, Code: one()}, api.ErrRange},
		{api.Prog{Slots: 3, Code: one()}, api.ErrRange},
		{api.Prog{Slots: most, Code: make([][]api.Instr, 5)}, api.ErrRange},
		{api.Prog{Code: one(api.Instr{})}, api.ErrKind},
		{api.Prog{Code: one(api.Instr{Op: 26})}, api.ErrKind},
		{api.Prog{Code: one(api.Instr{Op: api.OpHalt}, api.Instr{Op: least})}, api.ErrKind},
		{api.Prog{Code: one(api.Instr{Op: api.OpSet, A: 4})}, api.ErrRange},
		{api.Prog{Code: one(api.Instr{Op: api.OpJump, N: 2})}, api.ErrRange},
		{api.Prog{Code: one(api.Instr{Op: api.OpLook})}, api.ErrRange},
		{api.Prog{Slots: 1, Code: one(api.Instr{Op: api.OpClear, N: 1})}, api.ErrRange},
		{api.Prog{Code: [][]api.Instr{{{Op: 30}}, {{Op: api.OpSet, B: 1}}}}, api.ErrKind},
		{api.Prog{Code: [][]api.Instr{{{Op: api.OpSet, B: 1}}, {{Op: 30}}}}, api.ErrRange},
	}
}

// wrongConfigs are those that may not be.
func wrongConfigs() []api.Config {
	return []api.Config{
		{}, {Threshold: 1}, {Depth: 1}, {Threshold: 9, Depth: 1}, {Threshold: -1, Depth: 1}, {Threshold: 1, Depth: 5}, {Threshold: 1, Depth: -1},
		{Scheme: -1, Threshold: 1, Depth: 1}, {Scheme: 4, Threshold: 1, Depth: 1}, {Order: -1, Threshold: 1, Depth: 1}, {Order: 2, Threshold: 1, Depth: 1},
		{Threshold: 1, Depth: 1, Fuel: -1}, {Threshold: 1, Depth: 1, Fuel: 17}, {Threshold: 257, Depth: 1}, {Threshold: 1, Depth: 1 << 32}, {Scheme: most, Order: least, Threshold: most, Fuel: least, Depth: most},
	}
}

// schedules are some of each kind: nil, short ones, of agents that are none, and one far behind the end.
func schedules() [][]int {
	return [][]int{nil, {}, {0}, {0, 0}, {0, 0, 0}, {1}, {0, 1, 0}, {-1}, {least, most}, {0, 0, 9, 0}, make([]int, 1000)}
}

// holdWrong fails if one of the four calls does not refuse that.
func holdWrong(t *testing.T, p api.Prog, c api.Config, want api.Errno) {
	t.Helper()
	tries := []api.Key{{}, {Kind: api.Uaf}, {Kind: api.DoubleFree, Pc: 2}, {Kind: api.Wild}, {Kind: api.Leak}, {Kind: most, Thread: least, Pc: most}}
	for _, l := range schedules() {
		r, e := replay.Run(p, c, l)
		if r.N != 0 || len(r.Last) != 0 || len(r.All) != 0 || e != want {
			t.Fatalf("Run(%+v, %+v, %v) = %+v, %d, want %d", p, c, some(l), r, e, want)
		}
		s, e := replay.State(p, c, l)
		if !sameState(s, api.State{}) || e != want {
			t.Fatalf("State(%+v, %+v, %v) = %+v, %d, want %d", p, c, some(l), s, e, want)
		}
		for _, k := range tries {
			if replay.Shows(p, c, l, k) || replay.First(p, c, l, k) != 0 {
				t.Fatalf("%+v, %+v: %v tells %v", p, c, some(l), k)
			}
		}
	}
}

// P31.1, P4: of a program that may not be 11's error, whatever the config and the schedule are; nothing beside it.
func TestWrongPrograms(t *testing.T) {
	for _, x := range wrongProgs() {
		if e := prog.Check(x.p); e != x.e {
			t.Fatalf("11 tells %d of %+v, want %d", e, x.p, x.e)
		}
		for _, c := range append(wrongConfigs(), plainConfig) {
			holdWrong(t, x.p, c, x.e)
		}
	}
}

// P31.1, P4: of a config that may not be 14's error, where the program may be, also where its schedules would tell something.
func TestWrongConfigs(t *testing.T) {
	programs := []run{
		newRun(t, "manual sc 1 8 1", "0 1 0", freed...),
		newRun(t, "manual sc 1 8 1", "0 0 0", ""),
		newRun(t, "manual sc 1 8 1", "0 0 0", "free 0", "free 0"),
	}
	for _, c := range wrongConfigs() {
		if e := conf.Check(c); e != api.ErrRange {
			t.Fatalf("14 tells %d of %+v", e, c)
		}
		for _, x := range programs {
			holdWrong(t, x.p, c, api.ErrRange)
		}
	}
}
