package scheme_test

import (
	"math"
	"slices"
	"testing"

	"warrener/api"
	"warrener/scheme"
)

const (
	least = math.MinInt64
	most  = math.MaxInt64
)

// schemes are those that there are, and numbers that are none: beside them, those that are one when they are cut to fewer bits, and both ends.
var schemes = []int{api.Manual, api.Hazard, api.Epoch, api.Quiet, -1, 4, 5, -2, -3, 256, 257, 258, 259, 1<<32 + 1, 1<<32 + 2, 1<<32 + 3, least, least + 1, most}

// noSchemes are the numbers that are none.
var noSchemes = schemes[4:]

// kinds are those of micros, and numbers that are none.
var kinds = []int{
	api.MiNone, api.MiEnter, api.MiGuards, api.MiRelease, api.MiDate, api.MiMarks, api.MiAdvance, api.MiSnapshot, api.MiCounts,
	-1, 9, 10, -2, -5, 256, 258, 260, 261, 263, 264, 1<<32 + 2, 1<<32 + 5, 1<<32 + 7, least, least + 2, most,
}

// blind are the kinds of micros that see nothing.
var blind = slices.Concat([]int{api.MiNone, api.MiEnter, api.MiRelease, api.MiAdvance}, kinds[9:])

// thresholds are ordinary ones, those that may not be, and both ends.
var thresholds = []int{0, 1, 2, 3, 4, 8, 9, 100, -1, -2, -100, 1 << 32, 1<<32 + 1, -1 << 32, least, least + 1, most - 1, most}

// places are those of slots and threads, those beside them, those that are one when they are cut to fewer bits, and both ends.
var places = []int{0, 1, 2, 3, 4, 5, 6, 7, 8, 9, 100, -1, -2, -8, 256, 257, 1 << 31, 1 << 32, 1<<32 + 1, 1 << 62, -1 << 32, least, least + 1, most - 1, most}

// numbers are ordinary ones, and those about both ends.
var numbers = []int64{0, 1, 2, 3, 4, 5, 6, 7, 8, 9, 11, 13, 255, 256, 257, 1 << 31, 1 << 32, 1<<32 + 1, 1 << 62, -1, -2, -3, -256, -1 << 32, -1 << 62, least, least + 1, least + 2, most - 2, most - 1, most}

// fuels are from none to the most, those beyond, and both ends.
var fuels = []int{0, 1, 2, 3, 8, 15, 16, 17, 18, 100, 256, 257, 1 << 32, 1<<32 + 1, -1, -2, -16, least, least + 1, most - 1, most}

// eachSlots are how many slots a thread may have, and may not.
var eachSlots = []int{0, 1, 2, 3, 4, 100, -1, -2, 256, 257, 1 << 32, 1<<32 + 1, least, most}

// program has so many threads, and slots of each.
func program(threads int, slots int) api.Prog {
	p := api.Prog{Roots: 1, Cells: 2, Slots: slots}
	for t := range threads {
		p.Code = append(p.Code, slices.Repeat([]api.Instr{{Op: api.OpNew}, {Op: api.OpRetire}, {Op: api.OpQuiet}}, t%3))
	}
	return p
}

// retired are so many entries, each with three parts of its own.
func retired(count int) []api.Bagged {
	var l []api.Bagged
	for i := range count {
		l = append(l, api.Bagged{Cell: i + 1, Gen: i + 11, N: int64(i + 21)})
	}
	return l
}

// thread has something in each of its parts, and that micro.
func thread(m api.Micro) api.Thread {
	return api.Thread{
		Pc: 3, Fuel: 7, Status: api.Halted,
		Regs:  [4]api.Word{{N: 1, Cell: 1, Gen: 2}, {N: -5}, {N: most}, {N: 3, Cell: 3, Gen: 1}},
		Micro: m,
		Bag:   retired(3),
		Snap:  []int64{41, 42},
		Old:   2,
	}
}

// with answers the thread with that bag.
func with(th api.Thread, bag []api.Bagged) api.Thread {
	th.Bag = bag
	return th
}

// sameMicro tells whether both are the same; nil and empty lists are one.
func sameMicro(a api.Micro, b api.Micro) bool {
	return a.Kind == b.Kind && a.I == b.I && a.N == b.N && slices.Equal(a.Seen, b.Seen)
}

// same tells whether both threads are the same; nil and empty lists are one.
func same(a api.Thread, b api.Thread) bool {
	return a.Pc == b.Pc && a.Fuel == b.Fuel && a.Status == b.Status && a.Regs == b.Regs &&
		sameMicro(a.Micro, b.Micro) && slices.Equal(a.Bag, b.Bag) && slices.Equal(a.Snap, b.Snap) && a.Old == b.Old
}

// copied is the same thread, whose lists share nothing.
func copied(th api.Thread) api.Thread {
	th.Micro.Seen = slices.Concat(th.Micro.Seen)
	th.Bag = slices.Concat(th.Bag)
	th.Snap = slices.Concat(th.Snap)
	return th
}

// chance is a row of numbers without a short beat.
type chance uint64

func (c *chance) next(below int) int {
	*c = *c*6364136223846793005 + 1442695040888963407
	return int(uint64(*c) >> 33 % uint64(below))
}

// any is a number of all 64 bits.
func (c *chance) any() int64 {
	return int64(c.next(1<<31))<<62 ^ int64(c.next(1<<31))<<31 ^ int64(c.next(1<<31))
}

// number is mostly a small one, else one about the ends, or any.
func (c *chance) number() int64 {
	switch c.next(8) {
	case 0:
		return numbers[c.next(len(numbers))]
	case 1:
		return c.any()
	}
	return int64(c.next(9)) - 2
}

// list is one of up to so many numbers.
func (c *chance) list(longest int) []int64 {
	l := make([]int64, c.next(longest+1))
	for i := range l {
		l[i] = c.number()
	}
	return l
}

// bag is one of up to so many entries, some of which are the same.
func (c *chance) bag(longest int) []api.Bagged {
	l := make([]api.Bagged, c.next(longest+1))
	for i := range l {
		l[i] = api.Bagged{Cell: c.next(5), Gen: c.next(3), N: c.number()}
		if c.next(20) == 0 {
			l[i].Cell = int(c.any())
		}
	}
	return l
}

// one is mostly a small number, else one of the choice.
func (c *chance) one(below int, choice []int) int {
	if c.next(5) == 0 {
		return choice[c.next(len(choice))]
	}
	return c.next(below)
}

// prog is one of no thread to more than may be.
func (c *chance) prog() api.Prog {
	return program(c.next(7), c.one(4, eachSlots))
}

// config is mostly of a scheme that there is.
func (c *chance) config() api.Config {
	return api.Config{
		Scheme:    c.one(4, schemes),
		Order:     c.next(2),
		Threshold: c.one(5, thresholds),
		Fuel:      c.one(18, fuels),
		Depth:     1 + c.next(4),
	}
}

// thread is one with anything in its parts.
func (c *chance) thread() api.Thread {
	th := api.Thread{
		Pc: c.next(9), Fuel: c.next(9), Status: c.next(3),
		Micro: api.Micro{Kind: c.one(9, kinds), I: c.one(9, places), N: c.number(), Seen: c.list(5)},
		Bag:   c.bag(5),
		Snap:  c.list(5),
		Old:   c.one(7, places),
	}
	for r := range th.Regs {
		th.Regs[r] = api.Word{N: c.number(), Cell: c.next(3), Gen: c.next(3)}
	}
	return th
}

// holdBegin fails if Begin does not answer that.
func holdBegin(t *testing.T, p api.Prog, c api.Config, th api.Thread, want api.Micro) {
	t.Helper()
	if got := scheme.Begin(p, c, th); !sameMicro(got, want) {
		t.Fatalf("Begin of %d threads, %d slots, %+v, %+v = %+v, want %+v", len(p.Code), p.Slots, c, th, got, want)
	}
}

// holdQuieted fails if Quieted does not answer that.
func holdQuieted(t *testing.T, c api.Config, th api.Thread, want api.Thread) {
	t.Helper()
	if got := scheme.Quieted(c, th); !same(got, want) {
		t.Fatalf("Quieted(%+v, %+v) = %+v, want %+v", c, th, got, want)
	}
}

// holdReads fails if Reads does not answer that.
func holdReads(t *testing.T, p api.Prog, m api.Micro, want api.Place, wantOk bool) {
	t.Helper()
	if got, ok := scheme.Reads(p, m); got != want || ok != wantOk {
		t.Fatalf("Reads of %d threads, %d slots, %+v = %+v, %v, want %+v, %v", len(p.Code), p.Slots, m, got, ok, want, wantOk)
	}
}

// holdSee fails if See does not answer that.
func holdSee(t *testing.T, p api.Prog, c api.Config, me int, th api.Thread, n int64, want api.Thread) {
	t.Helper()
	if got := scheme.See(p, c, me, th, n); !same(got, want) {
		t.Fatalf("See of %d threads, %d slots, %+v, %d, %+v, %d = %+v, want %+v", len(p.Code), p.Slots, c, me, th, n, got, want)
	}
}

// holdAdvanced fails if Advanced does not answer that.
func holdAdvanced(t *testing.T, th api.Thread, done bool, want api.Thread) {
	t.Helper()
	if got := scheme.Advanced(th, done); !same(got, want) {
		t.Fatalf("Advanced(%+v, %v) = %+v, want %+v", th, done, got, want)
	}
}

// holdRelease fails if Release does not answer both.
func holdRelease(t *testing.T, c api.Config, th api.Thread, gone []api.Bagged, want api.Thread) {
	t.Helper()
	gotGone, got := scheme.Release(c, th)
	if !slices.Equal(gotGone, gone) || !same(got, want) {
		t.Fatalf("Release(%+v, %+v) = %v, %+v, want %v, %+v", c, th, gotGone, got, gone, want)
	}
}

// The chapter's example: Hazard, two threads of one slot each, Threshold 1: retire, two looks, a release: four steps.
func TestExample(t *testing.T) {
	p, c := program(2, 1), api.Config{Scheme: api.Hazard, Threshold: 1, Fuel: 3}
	th := api.Thread{Bag: []api.Bagged{{Cell: 2, Gen: 1}}}
	holdBegin(t, p, c, th, api.Micro{Kind: api.MiGuards})
	th.Micro = scheme.Begin(p, c, th)
	steps := 1
	for i := range 2 {
		holdReads(t, p, th.Micro, api.Place{Kind: api.PlSlot, I: i}, true)
		th = scheme.See(p, c, 0, th, int64(5+i))
		steps++
	}
	if !sameMicro(th.Micro, api.Micro{Kind: api.MiRelease, Seen: []int64{5, 6}}) {
		t.Fatalf("behind both looks there is %+v", th.Micro)
	}
	gone, behind := scheme.Release(c, th)
	steps++
	if !slices.Equal(gone, []api.Bagged{{Cell: 2, Gen: 1}}) || !same(behind, api.Thread{}) {
		t.Fatalf("Release = %v, %+v", gone, behind)
	}
	if steps != 4 || scheme.Factor(p, c) != 4 || scheme.Bound(p, c) != 2*2*3*4 {
		t.Fatalf("%d steps, Factor %d, Bound %d", steps, scheme.Factor(p, c), scheme.Bound(p, c))
	}
}

// All calls, of many things by chance: they answer what the page says.
func TestChance(t *testing.T) {
	c := chance(24)
	for range 100000 {
		p, conf, th := c.prog(), c.config(), c.thread()
		me, n := c.one(5, places), c.number()
		holdBegin(t, p, conf, th, beginWants(p, conf, th))
		holdQuieted(t, conf, th, quietedWants(conf, th))
		x, ok := readsWants(p, th.Micro)
		holdReads(t, p, th.Micro, x, ok)
		if th.Micro.Kind == api.MiMarks && c.next(2) == 0 {
			n = th.Micro.N*2 + 1
		}
		holdSee(t, p, conf, me, th, n, seeWants(p, conf, me, th, n))
		done := c.next(2) == 0
		holdAdvanced(t, th, done, advancedWants(th, done))
		gone, behind := releaseWants(conf, th)
		holdRelease(t, conf, th, gone, behind)
		if got, want := scheme.Factor(p, conf), factorWants(p, conf); got != want {
			t.Fatalf("Factor of %d threads, %d slots, %+v = %d, want %d", len(p.Code), p.Slots, conf, got, want)
		}
		if got, want := scheme.Bound(p, conf), boundWants(p, conf); got != want {
			t.Fatalf("Bound of %d threads, %d slots, %+v = %d, want %d", len(p.Code), p.Slots, conf, got, want)
		}
	}
}

// P3: the same is answered to the same, whatever was asked ahead, and by however many goroutines, of one thread and one program, too.
func TestBeside(t *testing.T) {
	p, th := program(3, 2), thread(api.Micro{Seen: []int64{1, 2}})
	done := make(chan bool)
	for i := range 8 {
		go func() { done <- goesAlone(i, p, th) }()
	}
	for range 8 {
		if !<-done {
			t.Error("an answer was another one beside others")
		}
	}
}

// goesAlone tells whether the calls answer as they do by themselves, asked again and again.
func goesAlone(seed int, p api.Prog, th api.Thread) bool {
	c := chance(seed)
	for range 300 {
		conf, me, n := c.config(), c.next(4), c.number()
		th.Micro.Kind, th.Micro.I, th.Micro.N = c.next(9), c.next(6), c.number()
		seen, quieted, advanced := scheme.See(p, conf, me, th, n), scheme.Quieted(conf, th), scheme.Advanced(th, true)
		gone, behind := scheme.Release(conf, th)
		wantGone, wantBehind := releaseWants(conf, th)
		if !same(seen, seeWants(p, conf, me, th, n)) || !same(quieted, quietedWants(conf, th)) || !same(advanced, advancedWants(th, true)) ||
			!slices.Equal(gone, wantGone) || !same(behind, wantBehind) || !sameMicro(scheme.Begin(p, conf, th), beginWants(p, conf, th)) {
			return false
		}
		spoilBag(gone)
		for _, answer := range []api.Thread{seen, quieted, advanced, behind} {
			spoil(answer)
		}
	}
	return true
}
