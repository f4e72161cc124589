package replay_test

import (
	"slices"
	"testing"

	"warrener/api"
	"warrener/machine"
	"warrener/op"
	"warrener/replay"
	"warrener/scheme"
)

// smalls are programs that are small enough for all their schedules to be gone through: of each scheme and order, and with each kind of what may be wrong.
func smalls(t *testing.T) []run {
	t.Helper()
	return []run{
		newRun(t, "manual sc 1 8 1", "0 1 0", "new 0; free 0; free 0"),
		newRun(t, "manual sc 1 8 1", "1 1 0", "new 0; put 0 0; free 0", "look 1 0; load 2 1 0"),
		newRun(t, "manual sc 1 8 1", "1 1 0", "new 0; put 0 0; free 0; new 0; put 0 0", "look 1 0; swap 3 1 2 0"),
		newRun(t, "manual sc 1 3 1", "0 2 0", "new 0; free 1", "new 0; retire 0; retire 0", "halt"),
		newRun(t, "manual tso 1 8 2", "1 1 0", "new 0; put 0 0; free 0", "look 1 0; store 1 1 0; fence"),
		newRun(t, "manual tso 1 4 2", "1 1 0", storesTwice...),
		newRun(t, "manual tso 1 5 1", "1 0 0", "set 0 1; put 0 0; swap 1 0 2 0", "look 0 0; put 0 1"),
		newRun(t, "hazard sc 1 6 1", "1 1 1", "new 0; put 0 0; put 0 1; retire 0", "look 0 0; guard 0 0; load 1 0 0"),
		newRun(t, "hazard tso 1 6 2", "1 1 1", "new 0; put 0 0; retire 0", "look 0 0; load 1 0 0"),
		newRun(t, "epoch sc 1 3 1", "0 1 0", "new 0; retire 0", "enter; new 0; leave"),
		newRun(t, "quiet sc 1 6 1", "0 1 0", "new 0; retire 0; quiet", "quiet; quiet"),
	}
}

// walk steps a machine through all schedules, and goes back behind each. seen has the kinds of what was told.
type walk struct {
	t     *testing.T
	x     run
	m     *machine.Machine
	l     []int
	told  [][]api.Key
	nodes int
	seen  map[int]bool
}

// from holds the schedule that was done so far, and goes on from it in all ways, those that can't be done among them.
func (w *walk) from() {
	w.nodes++
	h := history{told: w.told, state: w.m.State()}
	w.hold(w.l, h)
	for a := -1; a <= w.m.Agents(); a++ {
		told, ok := w.m.Step(a)
		if !ok {
			w.hold(append(slices.Clone(w.l), []int{a, 0, 1, 0}[:1+w.nodes%4]...), h)
			continue
		}
		w.l, w.told = append(w.l, a), append(w.told, told)
		w.from()
		w.l, w.told = w.l[:len(w.l)-1], w.told[:len(w.told)-1]
		w.m.Undo()
	}
}

// hold fails if one of the four calls does not answer what was done by hand, or if they don't agree.
func (w *walk) hold(l []int, h history) {
	w.t.Helper()
	w.x.holdRun(w.t, l, len(h.told), h.last(), h.all())
	w.x.holdState(w.t, l, h.state)
	holdFront(w.t, w.x, l)
	for _, k := range h.all() {
		w.seen[k.Kind] = true
	}
	for _, k := range append(h.all(), api.Key{Kind: w.nodes%6 + 1, Thread: w.nodes % 2, Pc: w.nodes % 4}) {
		w.x.holdKey(w.t, l, k, h)
		holdAgree(w.t, w.x, l, k)
	}
}

// holdAgree fails if the four calls don't agree on the schedule and the key.
func holdAgree(t *testing.T, x run, l []int, k api.Key) {
	t.Helper()
	r, _ := replay.Run(x.p, x.c, l)
	first, shows := replay.First(x.p, x.c, l, k), replay.Shows(x.p, x.c, l, k)
	if shows != (r.N == len(l) && slices.Contains(r.Last, k)) || (first > 0) != slices.Contains(r.All, k) || first < 0 || first > r.N {
		t.Fatalf("%+v: Run(%v) = %+v, First = %d, Shows = %v of %v", x, l, r, first, shows, k)
	}
	if shows && first == 0 || first > 0 && !replay.Shows(x.p, x.c, l[:first], k) {
		t.Fatalf("%+v: First(%v, %v) = %d, Shows = %v", x, l, k, first, shows)
	}
}

// holdFront fails if the schedule does not come to the same as its front that can be done.
func holdFront(t *testing.T, x run, l []int) {
	t.Helper()
	r, _ := replay.Run(x.p, x.c, l)
	front, e := replay.Run(x.p, x.c, l[:r.N])
	if e != api.OK || front.N != r.N || !slices.Equal(front.Last, r.Last) || !slices.Equal(front.All, r.All) {
		t.Fatalf("%+v: Run(%v) = %+v, and of its front %+v", x, l, r, front)
	}
	all, _ := replay.State(x.p, x.c, l)
	some, _ := replay.State(x.p, x.c, l[:r.N])
	if !sameState(all, some) {
		t.Fatalf("%+v: State(%v) = %+v, and of its front %+v", x, l, all, some)
	}
}

// P31.1: the four calls, held against a machine that is stepped by hand, and against one another, for every schedule of small programs.
func TestEverySchedule(t *testing.T) {
	seen := map[int]bool{}
	for _, x := range smalls(t) {
		w := &walk{t: t, x: x, m: x.begun(t), seen: seen}
		w.from()
		if w.nodes < 4 {
			t.Fatalf("%+v has %d schedules", x, w.nodes)
		}
	}
	for i, name := range kinds {
		if !seen[i+1] {
			t.Errorf("no schedule tells %s", name)
		}
	}
}

// instr is any instruction that may be in the program, in code of so many.
func (c *chance) instr(p api.Prog, long int) api.Instr {
	often := []int{api.OpNew, api.OpPut, api.OpLook, api.OpFree, api.OpRetire, api.OpRetire, api.OpLoad, api.OpStore, api.OpStore, api.OpCas, api.OpSwap, api.OpSwap, api.OpGuard, api.OpEnter, api.OpQuiet}
	x := api.Instr{Op: c.next(25) + 1}
	if i := c.next(len(often) + 8); i < len(often) {
		x.Op = often[i]
	}
	var n [4]int
	for i, letter := range op.Shape(x.Op) {
		n[i] = c.operand(letter, p, long)
	}
	x.A, x.B, x.C, x.N = n[0], n[1], n[2], int64(n[3])
	return x
}

// operand is any one of that letter. Most registers are those that mostly have pointers.
func (c *chance) operand(letter rune, p api.Prog, long int) int {
	switch letter {
	case 'r':
		return max(c.next(10)-6, 0)
	case 'g':
		return max(c.next(p.Roots+4)-4, 0)
	case 's':
		return c.next(p.Slots)
	case 'f':
		return c.next(2)
	case 't':
		return c.next(long + 1)
	case 'n':
		return c.next(3)
	}
	return 0
}

// any is any program and config, each of whose threads begins with a cell of its own, or with another one's.
func (c *chance) any() run {
	p := api.Prog{Roots: c.next(4) + 1, Cells: c.next(3) + 1, Slots: c.next(2) + 1}
	for range c.next(4) + 1 {
		l := []api.Instr{{Op: api.OpLook}, {Op: api.OpZero}}
		if c.next(2) == 0 {
			l = []api.Instr{{Op: api.OpNew}, {Op: api.OpPut}}
		}
		for len(l) < 8 {
			l = append(l, c.instr(p, 8))
		}
		p.Code = append(p.Code, l)
	}
	return run{p, api.Config{Scheme: c.next(4), Order: c.next(2), Threshold: c.next(2) + 1, Fuel: c.next(17), Depth: c.next(4) + 1}}
}

// picks is a schedule that goes on till nothing can step, if long is that long. Now and then it has a pick that can't be done.
func (c *chance) picks(m *machine.Machine, long int) []int {
	var l []int
	for range long {
		if c.next(60) == 0 {
			return append(l, noAgents[c.next(len(noAgents))], 0, 1, 2)
		}
		var able []int
		for a := range m.Agents() {
			if m.Can(a) {
				able = append(able, a)
			}
		}
		if len(able) == 0 {
			return append(l, slices.Repeat([]int{0}, c.next(2))...)
		}
		a := able[c.next(len(able))]
		m.Step(a)
		l = append(l, a)
	}
	return l
}

// P31.1: the four calls, held against a machine that is stepped by hand, for long schedules of programs of all kinds.
func TestAnyProgram(t *testing.T) {
	c := chance(1)
	told := map[int]int{}
	for range 1500 {
		x := c.any()
		l := c.picks(x.begun(t), c.next(200))
		holdFront(t, x, l)
		for _, k := range x.hold(t, l).all() {
			told[k.Kind]++
			holdAgree(t, x, l, k)
		}
	}
	for kind, name := range kinds {
		if told[kind+1] < 10 {
			t.Errorf("%s is told by %d schedules", name, told[kind+1])
		}
	}
}

// P1: a schedule far longer than any that can be done comes to its end where nothing can step.
func TestFarTooLong(t *testing.T) {
	x := newRun(t, "hazard tso 1 16 4", "1 1 1", "new 0; put 0 0; retire 0; jump 0")
	for _, l := range [][]int{make([]int, 1<<22), slices.Repeat([]int{0, 1, 0, 1, 1}, 1<<20), slices.Repeat([]int{1}, 1<<22)} {
		h := x.hold(t, l)
		if n := len(h.told); n > scheme.Bound(x.p, x.c) {
			t.Fatalf("%d picks were done", n)
		}
	}
}
