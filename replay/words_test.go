package replay_test

import (
	"math"
	"slices"
	"strconv"
	"strings"
	"testing"

	"warrener/api"
	"warrener/asm"
	"warrener/code"
	"warrener/conf"
	"warrener/machine"
	"warrener/replay"
)

const (
	least = math.MinInt
	most  = math.MaxInt
)

// noAgents are numbers of no agent, however many there are: those beside the bounds, those that are one when they are cut to fewer bits, and both ends.
var noAgents = []int{-1, -2, -3, -4, -8, 8, 9, 16, 255, 256, 257, -256, 1 << 16, 1 << 31, 1 << 32, 1<<32 + 1, -1 << 32, -1<<32 + 1, 1 << 62, least, least + 1, most - 1, most}

// kinds are the names of the keys' kinds, of the first kind first.
var kinds = []string{"uaf", "doublefree", "doubleretire", "aba", "wild", "leak"}

// run is a program, and how it is run.
type run struct {
	p api.Prog
	c api.Config
}

// newRun is of "scheme order threshold fuel depth", of "roots cells slots", and of the instructions of each thread, a semicolon between each two.
func newRun(t *testing.T, config string, much string, threads ...string) run {
	t.Helper()
	text := "warrener " + much + "\n"
	for _, th := range threads {
		text += "thread\n" + strings.ReplaceAll(th, ";", "\n") + "\n"
	}
	p, at, e := asm.Parse(text)
	if e != api.OK {
		t.Fatalf("line %d of the program is wrong, by %d:\n%s", at, e, text)
	}
	c, _, e := conf.Parse(config + " full 0 all")
	if e != api.OK {
		t.Fatalf("the config %q is wrong, by %d", config, e)
	}
	return run{p, c}
}

// begun is a machine at its beginning.
func (x run) begun(t *testing.T) *machine.Machine {
	t.Helper()
	m, e := machine.New(x.p, x.c)
	if m == nil || e != api.OK {
		t.Fatalf("New(%+v, %+v) = %v, %d", x.p, x.c, m, e)
	}
	return m
}

// key is the one of such a text.
func key(t *testing.T, s string) api.Key {
	t.Helper()
	words := strings.Fields(s)
	if len(words) != 3 {
		t.Fatalf("%q is no key", s)
	}
	thread, err := strconv.Atoi(words[1])
	if err != nil {
		t.Fatal(err)
	}
	pc, err := strconv.Atoi(words[2])
	if err != nil {
		t.Fatal(err)
	}
	return api.Key{Kind: slices.Index(kinds, words[0]) + 1, Thread: thread, Pc: pc}
}

// keys are those of such a text, with a comma between each two.
func keys(t *testing.T, s string) []api.Key {
	t.Helper()
	var l []api.Key
	for one := range strings.SplitSeq(s, ", ") {
		if one != "" {
			l = append(l, key(t, one))
		}
	}
	return l
}

// sameState tells whether both have the same octets: a nil list and an empty one are one.
func sameState(a api.State, b api.State) bool {
	return string(code.Put(a)) == string(code.Put(b))
}

// history is what came of a schedule, done by hand: what each pick told that was done, and the state behind them.
type history struct {
	told  [][]api.Key
	state api.State
}

// byHand does the schedule on a machine, step by step.
func byHand(t *testing.T, x run, l []int) history {
	t.Helper()
	m := x.begun(t)
	var h history
	for _, a := range l {
		told, ok := m.Step(a)
		if !ok {
			break
		}
		h.told = append(h.told, told)
	}
	h.state = m.State()
	return h
}

// last is what the last pick told.
func (h history) last() []api.Key {
	if len(h.told) == 0 {
		return nil
	}
	return h.told[len(h.told)-1]
}

// all goes through all keys that there may be, as they rise, and has those that were told.
func (h history) all() []api.Key {
	var l []api.Key
	for k := range mayBe() {
		if h.first(k) > 0 {
			l = append(l, k)
		}
	}
	return l
}

// first is how many picks there are up to the first one that told the key.
func (h history) first(k api.Key) int {
	return 1 + slices.IndexFunc(h.told, func(told []api.Key) bool { return slices.Contains(told, k) })
}

// mayBe goes through all keys that there may be, rising.
func mayBe() func(yield func(api.Key) bool) {
	return func(yield func(api.Key) bool) {
		for kind := api.Uaf; kind <= api.Leak; kind++ {
			for thread := range api.MaxThreads {
				for pc := range api.MaxCode {
					if !yield(api.Key{Kind: kind, Thread: thread, Pc: pc}) {
						return
					}
				}
			}
		}
	}
}

// beside are keys that differ from that one in one number, or in their numbers' order, and the key of noughts.
func beside(k api.Key) []api.Key {
	return []api.Key{
		{}, {Kind: k.Kind - 1, Thread: k.Thread, Pc: k.Pc}, {Kind: k.Kind + 1, Thread: k.Thread, Pc: k.Pc},
		{Kind: k.Kind, Thread: k.Thread - 1, Pc: k.Pc}, {Kind: k.Kind, Thread: k.Thread + 1, Pc: k.Pc},
		{Kind: k.Kind, Thread: k.Thread, Pc: k.Pc - 1}, {Kind: k.Kind, Thread: k.Thread, Pc: k.Pc + 1},
		{Kind: k.Thread, Thread: k.Kind, Pc: k.Pc}, {Kind: k.Kind, Thread: k.Pc, Pc: k.Thread},
		{Kind: k.Kind + 8, Thread: k.Thread, Pc: k.Pc}, {Kind: k.Kind, Thread: k.Thread + 4, Pc: k.Pc}, {Kind: k.Kind, Thread: k.Thread, Pc: k.Pc + 16},
		{Kind: k.Kind + 1<<32, Thread: k.Thread, Pc: k.Pc}, {Kind: k.Kind, Thread: k.Thread + 1<<32, Pc: k.Pc}, {Kind: k.Kind, Thread: k.Thread, Pc: k.Pc + 1<<32},
		{Kind: -k.Kind, Thread: k.Thread, Pc: k.Pc}, {Kind: most, Thread: k.Thread, Pc: k.Pc}, {Kind: k.Kind, Thread: least, Pc: k.Pc}, {Kind: k.Kind, Thread: k.Thread, Pc: most},
	}
}

// hold fails if one of the four calls does not answer what was done by hand.
func (x run) hold(t *testing.T, l []int) history {
	t.Helper()
	h := byHand(t, x, l)
	x.holdRun(t, l, len(h.told), h.last(), h.all())
	x.holdState(t, l, h.state)
	for _, k := range h.all() {
		for _, other := range append(beside(k), k) {
			x.holdKey(t, l, other, h)
		}
	}
	return h
}

// holdRun fails if Run does not answer that.
func (x run) holdRun(t *testing.T, l []int, n int, last []api.Key, all []api.Key) {
	t.Helper()
	r, e := replay.Run(x.p, x.c, l)
	if e != api.OK || r.N != n || !slices.Equal(r.Last, last) || !slices.Equal(r.All, all) {
		t.Fatalf("%+v: Run(%v) = %+v, %d, want %d, %v, %v", x, some(l), r, e, n, last, all)
	}
}

// holdState fails if State does not answer that.
func (x run) holdState(t *testing.T, l []int, want api.State) {
	t.Helper()
	s, e := replay.State(x.p, x.c, l)
	if e != api.OK || !sameState(s, want) {
		t.Fatalf("%+v: State(%v) = %+v, %d, want %+v", x, some(l), s, e, want)
	}
}

// holdKey fails if Shows or First does not answer what was done by hand.
func (x run) holdKey(t *testing.T, l []int, k api.Key, h history) {
	t.Helper()
	x.holdShows(t, l, k, len(l) > 0 && len(h.told) == len(l) && slices.Contains(h.last(), k))
	x.holdFirst(t, l, k, h.first(k))
}

// holdShows fails if Shows does not answer that.
func (x run) holdShows(t *testing.T, l []int, k api.Key, want bool) {
	t.Helper()
	if got := replay.Shows(x.p, x.c, l, k); got != want {
		t.Fatalf("%+v: Shows(%v, %v) = %v", x, some(l), k, got)
	}
}

// holdFirst fails if First does not answer that.
func (x run) holdFirst(t *testing.T, l []int, k api.Key, want int) {
	t.Helper()
	if got := replay.First(x.p, x.c, l, k); got != want {
		t.Fatalf("%+v: First(%v, %v) = %d, want %d", x, some(l), k, got, want)
	}
}

// some is the front of a schedule, short enough to be told.
func some(l []int) []int {
	return l[:min(len(l), 100)]
}

// chance is a row of numbers without a short beat.
type chance uint64

func (c *chance) next(below int) int {
	*c = *c*6364136223846793005 + 1442695040888963407
	return int(uint64(*c) >> 33 % uint64(below))
}
