package machine_test

import (
	"slices"
	"testing"

	"warrener/api"
	"warrener/code"
	"warrener/conf"
	"warrener/machine"
	"warrener/prog"
)

// plainConfig is one that may be.
var plainConfig = api.Config{Threshold: 1, Fuel: 4, Depth: 1}

// wrongProgs are programs that may not be, with 11's error of each.
func wrongProgs() []struct {
	p api.Prog
	e api.Errno
} {
	one := func(l ...api.Instr) [][]api.Instr { return [][]api.Instr{l} }
	return []struct {
		p api.Prog
		e api.Errno
	}{
		{api.Prog{}, api.ErrMany},
		{api.Prog{Code: [][]api.Instr{}}, api.ErrMany},
		{api.Prog{Code: make([][]api.Instr, 5)}, api.ErrMany},
		{api.Prog{Code: make([][]api.Instr, 260)}, api.ErrMany},
		{api.Prog{Roots: 5, Code: one()}, api.ErrRange},
		{api.Prog{Roots: -1, Code: one()}, api.ErrRange},
		{api.Prog{Cells: 7, Code: one()}, api.ErrRange},
		{api.Prog{Cells: -1, Code: one()}, api.ErrRange},
		{api.Prog{Slots: 3, Code: one()}, api.ErrRange},
		{api.Prog{Slots: -1, Code: one()}, api.ErrRange},
		{api.Prog{Roots: most, Cells: least, Slots: most, Code: one()}, api.ErrRange},
		{api.Prog{Roots: 5}, api.ErrRange},
		{api.Prog{Code: one(make([]api.Instr, 17)...)}, api.ErrMany},
		{api.Prog{Code: [][]api.Instr{{{Op: 99}}, make([]api.Instr, 17)}}, api.ErrMany},
		{api.Prog{Code: one(api.Instr{})}, api.ErrKind},
		{api.Prog{Code: one(api.Instr{Op: 26})}, api.ErrKind},
		{api.Prog{Code: one(api.Instr{Op: -1})}, api.ErrKind},
		{api.Prog{Code: one(api.Instr{Op: most})}, api.ErrKind},
		{api.Prog{Code: one(api.Instr{Op: api.OpHalt}, api.Instr{Op: api.OpSet, A: 4})}, api.ErrRange},
		{api.Prog{Code: one(api.Instr{Op: api.OpHalt, N: 1})}, api.ErrRange},
		{api.Prog{Code: one(api.Instr{Op: api.OpJump, N: 2})}, api.ErrRange},
		{api.Prog{Code: one(api.Instr{Op: api.OpLook})}, api.ErrRange},
		{api.Prog{Roots: 1, Code: one(api.Instr{Op: api.OpSwap, N: 1})}, api.ErrRange},
		{api.Prog{Cells: 1, Code: one(api.Instr{Op: api.OpLoad, N: 2})}, api.ErrRange},
		{api.Prog{Slots: 1, Code: one(api.Instr{Op: api.OpClear, N: 1})}, api.ErrRange},
		{api.Prog{Code: [][]api.Instr{{{Op: 30}}, {{Op: api.OpSet, B: 1}}}}, api.ErrKind},
		{api.Prog{Code: [][]api.Instr{{{Op: api.OpSet, B: 1}}, {{Op: 30}}}}, api.ErrRange},
	}
}

// wrongConfigs are those that may not be.
func wrongConfigs() []api.Config {
	return []api.Config{
		{}, {Threshold: 1}, {Depth: 1}, {Threshold: 9, Depth: 1}, {Threshold: -1, Depth: 1}, {Threshold: 1, Depth: 5}, {Threshold: 1, Depth: -1},
		{Scheme: -1, Threshold: 1, Depth: 1}, {Scheme: 4, Threshold: 1, Depth: 1}, {Order: -1, Threshold: 1, Depth: 1}, {Order: 2, Threshold: 1, Depth: 1},
		{Threshold: 1, Depth: 1, Fuel: -1}, {Threshold: 1, Depth: 1, Fuel: 17}, {Threshold: most, Depth: 1}, {Threshold: 1, Depth: least}, {Threshold: 1, Depth: 1, Fuel: most},
		{Threshold: 257, Depth: 1}, {Threshold: 1, Depth: 1 << 32}, {Scheme: most, Order: most, Threshold: most, Fuel: most, Depth: most},
	}
}

// P29.1, P4: New tells 11's error, whatever the config is; then 14's; and no machine beside one.
func TestNewErrors(t *testing.T) {
	hold := func(p api.Prog, c api.Config, want api.Errno) {
		t.Helper()
		if m, e := machine.New(p, c); m != nil || e != want {
			t.Fatalf("New(%+v, %+v) = %v, %d, want %d", p, c, m, e, want)
		}
	}
	for _, x := range wrongProgs() {
		if e := prog.Check(x.p); e != x.e {
			t.Fatalf("11 tells %d of %+v, want %d", e, x.p, x.e)
		}
		for _, c := range append(wrongConfigs(), plainConfig) {
			hold(x.p, c, x.e)
		}
	}
	for _, c := range wrongConfigs() {
		if e := conf.Check(c); e != api.ErrRange {
			t.Fatalf("14 tells %d of %+v", e, c)
		}
		hold(program(t, "1 1 1", "new 0"), c, api.ErrRange)
		hold(program(t, "0 0 0", ""), c, api.ErrRange)
	}
}

// configs are all kinds of configs that may be, with what is least and most in each part.
func configs() []api.Config {
	var l []api.Config
	for scheme := range 4 {
		for order := range 2 {
			for _, threshold := range []int{1, 2, 8} {
				for _, fuel := range []int{0, 1, 5, 16} {
					for _, depth := range []int{1, 2, 4} {
						l = append(l, api.Config{Scheme: scheme, Order: order, Threshold: threshold, Fuel: fuel, Depth: depth})
					}
				}
			}
		}
	}
	return l
}

// sizes are programs with no, few, and as many roots, cells, slots and threads as there may be, of no, one and as many instructions as there may be.
func sizes() []api.Prog {
	var l []api.Prog
	for _, roots := range []int{0, 1, 4} {
		for _, cells := range []int{0, 2, 6} {
			for slots := range 3 {
				for threads := 1; threads <= 4; threads++ {
					for _, long := range []int{0, 1, 16} {
						p := api.Prog{Roots: roots, Cells: cells, Slots: slots}
						for t := range threads {
							p.Code = append(p.Code, slices.Repeat([]api.Instr{{Op: api.OpSet, A: t, N: int64(t) + 7}}, long))
						}
						l = append(l, p)
					}
				}
			}
		}
	}
	return l
}

// P29.1: a machine at its beginning, of all sizes and configs: who can step, what that touches, its state and its sum, whether it is over, and that there is nothing to undo.
func TestBeginning(t *testing.T) {
	for i, p := range sizes() {
		for j, c := range configs() {
			if (i+j)%23 != 0 {
				continue
			}
			b := newPair(t, p, c)
			if b.m.Steps() != 0 || b.m.Undo() || b.m.Agents() != len(p.Code)*(1+c.Order) || b.m.Over() != (c.Fuel == 0 || len(p.Code[0]) == 0) {
				b.fail("Steps() = %d, Agents() = %d, Over() = %v", b.m.Steps(), b.m.Agents(), b.m.Over())
			}
			for a := range b.m.Agents() {
				able := a < len(p.Code) && c.Fuel > 0 && len(p.Code[0]) > 0
				if f, ok := b.m.Foot(a); ok != able || b.m.Can(a) != able || !sameFoot(f, api.Foot{}) {
					b.fail("Can(%d) = %v, Foot(%d) = %v, %v", a, b.m.Can(a), a, f, ok)
				}
			}
			b.hold()
		}
	}
}

// P29.1: the state at the beginning, written out.
func TestBeginningOneByOne(t *testing.T) {
	m := begun(t, program(t, "2 3 1", "new 0", "halt"), config(t, "hazard tso 2 7 3"))
	want := api.State{
		Threads: []api.Thread{{Fuel: 7}, {Fuel: 7}}, Buffers: [][]api.Entry{{}, {}},
		Roots: make([]api.Word, 2), Slots: make([]api.Word, 2), Cells: make([]api.Cell, 3), Free: []int{1, 2, 3},
		Marks: []int64{0, 0}, Counts: []int64{0, 0},
	}
	if s := m.State(); !sameState(s, want) || m.Hash() != code.Hash(want) {
		t.Fatalf("State() = %+v, Hash() = %d", s, m.Hash())
	}
	if m.Agents() != 4 || m.Steps() != 0 || m.Over() || m.Undo() || !m.Can(0) || !m.Can(1) || m.Can(2) || m.Can(3) {
		t.Fatalf("%d agents, %d steps, over %v", m.Agents(), m.Steps(), m.Over())
	}
	if f, ok := m.Foot(0); !ok || len(f.Reads) != 0 || !slices.Equal(f.Writes, []api.Place{{Kind: api.PlHeap}}) {
		t.Fatalf("Foot(0) = %v, %v", f, ok)
	}
}

// P29.1, P1: numbers of no agent can't step, have no foot, and change nothing, at any time.
func TestNoAgents(t *testing.T) {
	for _, order := range []string{"sc", "tso"} {
		b := newPair(t, program(t, "1 1 1", "new 0; put 0 0; free 0", "look 1 0; put 0 1; load 1 1 0"), config(t, "hazard "+order+" 1 8 2"))
		for _, a := range []int{0, 1, 0, 1, 0, 1} {
			for _, none := range append(slices.Clone(noAgents), b.m.Agents(), b.m.Agents()+1, 2*b.m.Agents()) {
				if f, ok := b.m.Foot(none); b.m.Can(none) || ok || !sameFoot(f, api.Foot{}) {
					b.fail("Can(%d) = %v, Foot(%d) = %v, %v", none, b.m.Can(none), none, f, ok)
				}
				if keys, ok := b.try(none); ok || len(keys) != 0 {
					b.fail("Step(%d) = %v, %v", none, keys, ok)
				}
			}
			b.hold()
			b.step(a)
		}
	}
}

// P29.2: what agents touch, written out, also where they can't step now.
func TestFootOneByOne(t *testing.T) {
	for _, x := range []struct{ code, reads, sc, tso string }{
		{"set 0 1", "", "", ""}, {"halt", "", "", ""}, {"fence", "", "", ""}, {"jump 0", "", "", ""},
		{"look 0 1", "1.1.0", "", ""}, {"put 1 0", "", "1.1.0", ""}, {"swap 0 1 2 1", "1.1.0", "1.1.0", "1.1.0"},
		{"load 0 3 1", "2.1.0 3.1.1", "", ""}, {"store 3 0 1", "2.1.0", "3.1.1", ""}, {"cas 3 0 0 1", "2.1.0 3.1.1", "3.1.1", "3.1.1"},
		{"load 0 0 1", "", "", ""}, {"store 0 3 1", "", "", ""}, {"cas 0 3 3 1", "", "", ""},
		{"new 0", "", "4.0.0", "4.0.0"}, {"free 3", "", "2.1.0 3.1.0 3.1.1 4.0.0", "2.1.0 3.1.0 3.1.1 4.0.0"}, {"free 0", "", "", ""},
		{"retire 3", "", "2.1.0", "2.1.0"}, {"retire 0", "", "", ""},
		{"guard 0 1", "", "5.0.1", ""}, {"clear 1", "", "5.0.1", ""}, {"enter", "6.0.0", "", ""}, {"leave", "", "7.0.0", ""}, {"quiet", "", "8.0.0", ""},
	} {
		for i, order := range []string{"sc", "tso"} {
			for waits := range 2 {
				b := newPair(t, program(t, "2 2 2", "new 3; "+[]string{"", "put 0 3; "}[waits]+x.code, "halt"), config(t, "manual "+order+" 1 8 1"))
				b.run(make([]int, waits+1)...)
				f, ok := b.m.Foot(0)
				if got := texts(f.Reads, placeText); got != x.reads || !ok {
					b.fail("%s reads %q, %v", x.code, got, ok)
				}
				if got, want := texts(f.Writes, placeText), []string{x.sc, x.tso}[i]; got != want {
					b.fail("%s writes %q, want %q", x.code, got, want)
				}
			}
		}
	}
}

// P29.2: what buffers touch, written out.
func TestBufferFoot(t *testing.T) {
	b := newPair(t, program(t, "2 2 2", "new 3; put 1 3; store 3 0 1; quiet; free 3", "guard 0 1; leave"), config(t, "quiet tso 1 8 4"))
	b.run(0, 0, 0, 0, 1, 1)
	for _, x := range []struct {
		a             int
		reads, writes string
	}{{2, "", "1.1.0"}, {2, "2.1.0", "3.1.1"}, {2, "", "8.0.0"}, {3, "", "5.1.1"}, {3, "", "7.1.0"}} {
		f, ok := b.m.Foot(x.a)
		if !ok || texts(f.Reads, placeText) != x.reads || texts(f.Writes, placeText) != x.writes {
			b.fail("Foot(%d) = %v, %v", x.a, f, ok)
		}
		b.step(x.a)
	}
	for _, a := range []int{2, 3} {
		if f, ok := b.m.Foot(a); ok || !sameFoot(f, api.Foot{}) {
			b.fail("Foot(%d) = %v, %v", a, f, ok)
		}
	}
}

// P29.2: what a release touches: the cells that go, and no others.
func TestReleaseFoot(t *testing.T) {
	b := newPair(t, program(t, "1 3 1", "new 0; new 1; new 2; guard 1 0; retire 0; retire 1; retire 2"), config(t, "hazard sc 3 8 1"))
	b.run(0, 0, 0, 0, 0, 0, 0)
	if f, ok := b.m.Foot(0); !ok || texts(f.Reads, placeText) != "5.0.0" || len(f.Writes) != 0 {
		b.fail("Foot(0) = %v, %v", f, ok)
	}
	b.run(0)
	if f, ok := b.m.Foot(0); !ok || len(f.Reads) != 0 || texts(f.Writes, placeText) != "2.1.0 2.3.0 3.1.0 3.1.1 3.3.0 3.3.1 4.0.0" {
		b.fail("Foot(0) = %v, %v", f, ok)
	}
	b.run(0)
	b.holdFacts("bag 0: 2@1:0", "free: 3 1")
	if f, ok := b.m.Foot(0); ok || !sameFoot(f, api.Foot{}) {
		b.fail("Foot(0) = %v, %v", f, ok)
	}
}
