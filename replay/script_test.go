package replay_test

import (
	"slices"
	"strconv"
	"strings"
	"testing"

	"warrener/api"
	"warrener/replay"
)

// script is a program, how it is run, a schedule, and what comes of it: how many picks are done, what is told, by the pick's number from 1 on, and all of that, rising.
type script struct {
	name, config, much string
	threads            []string
	picks              []int
	n                  int
	told, all          string
}

// toldBy is what each pick tells that is done.
func (x script) toldBy(t *testing.T) [][]api.Key {
	t.Helper()
	l := make([][]api.Key, x.n)
	for one := range strings.SplitSeq(x.told, "; ") {
		if one == "" {
			continue
		}
		number, what, _ := strings.Cut(one, ": ")
		i, err := strconv.Atoi(number)
		if err != nil {
			t.Fatal(err)
		}
		l[i-1] = keys(t, what)
	}
	return l
}

// holdScripts does each script, and each front of its schedule, and asks of each key that there may be.
func holdScripts(t *testing.T, l []script) {
	t.Helper()
	for _, x := range l {
		t.Run(x.name, func(t *testing.T) {
			r, told := newRun(t, x.config, x.much, x.threads...), x.toldBy(t)
			var last []api.Key
			if x.n > 0 {
				last = told[x.n-1]
			}
			r.holdRun(t, x.picks, x.n, last, keys(t, x.all))
			for k := range mayBe() {
				shows := x.n > 0 && x.n == len(x.picks) && slices.Contains(last, k)
				r.holdShows(t, x.picks, k, shows)
				r.holdFirst(t, x.picks, k, 1+slices.IndexFunc(told, func(l []api.Key) bool { return slices.Contains(l, k) }))
			}
			for i := range len(x.picks) + 1 {
				h := r.hold(t, x.picks[:i])
				if !slices.EqualFunc(h.told, told[:min(i, x.n)], func(a []api.Key, b []api.Key) bool { return slices.Equal(a, b) }) {
					t.Fatalf("%v tells %v, want %v", x.picks[:i], h.told, told[:min(i, x.n)])
				}
			}
		})
	}
}

// The chapter's example: a pick of an agent that is none.
func TestExample(t *testing.T) {
	x := newRun(t, "manual sc 1 8 1", "0 1 0", "new 0; free 0; free 0")
	for _, a := range append([]int{1, 2}, noAgents...) {
		x.holdRun(t, []int{a}, 0, nil, nil)
		x.holdRun(t, []int{a, 0, 0, 0}, 0, nil, nil)
	}
}

// freed frees a cell twice, so that the third pick tells something.
var freed = []string{"new 0; free 0; free 0"}

// P31.1: schedules of which none, all, and some picks can be done.
func TestHowMany(t *testing.T) {
	holdScripts(t, []script{
		{"nil", "manual sc 1 8 1", "0 1 0", freed, nil, 0, "", ""},
		{"none", "manual sc 1 8 1", "0 1 0", freed, []int{}, 0, "", ""},
		{"all can", "manual sc 1 8 1", "0 1 0", freed, []int{0, 0, 0}, 3, "3: doublefree 0 2", "doublefree 0 2"},
		{"behind the end", "manual sc 1 8 1", "0 1 0", freed, []int{0, 0, 0, 0}, 3, "3: doublefree 0 2", "doublefree 0 2"},
		{"far behind the end", "manual sc 1 8 1", "0 1 0", freed, make([]int, 300), 3, "3: doublefree 0 2", "doublefree 0 2"},
		{"the end ahead of the key", "manual sc 1 8 1", "0 1 0", freed, []int{0, 0}, 2, "", ""},
		{"the first is of no agent", "manual sc 1 8 1", "0 1 0", freed, []int{-1, 0, 0, 0}, 0, "", ""},
		{"the first is of a buffer, and there is none", "manual sc 1 8 1", "0 1 0", freed, []int{1, 0, 0, 0}, 0, "", ""},
		{"the first is of a buffer that is empty", "manual tso 1 8 1", "0 1 0", freed, []int{1, 0, 0, 0}, 0, "", ""},
		{"the first is of a thread that is done", "manual sc 1 8 1", "0 1 0", []string{"", "new 0; free 0; free 0"}, []int{0, 1, 1, 1}, 0, "", ""},
		{"the midst is of no agent", "manual sc 1 8 1", "0 1 0", freed, []int{0, 1, 0, 0}, 1, "", ""},
		{"the midst is far below 0", "manual sc 1 8 1", "0 1 0", freed, []int{0, 0, least, 0}, 2, "", ""},
		{"the midst is far above", "manual sc 1 8 1", "0 1 0", freed, []int{0, 0, most, 0}, 2, "", ""},
		{"what is told behind one that can't", "manual sc 1 8 1", "0 1 0", freed, []int{0, 0, -1, 0}, 2, "", ""},
		{"one that can't behind what is told", "manual sc 1 8 1", "0 1 0", freed, []int{0, 0, 0, -1}, 3, "3: doublefree 0 2", "doublefree 0 2"},
		{"over at once", "manual sc 1 8 1", "0 1 0", []string{""}, []int{0, 0}, 0, "", ""},
		{"no fuel", "manual sc 1 0 1", "0 1 0", freed, []int{0, 0}, 0, "", ""},
		{"little fuel", "manual sc 1 2 1", "0 1 0", freed, []int{0, 0, 0}, 2, "", ""},
		{"as many agents as threads", "manual sc 1 8 1", "0 1 0", []string{"set 0 1", "set 0 2", "set 0 3"}, []int{2, 1, 3, 0}, 2, "", ""},
		{"twice as many", "manual tso 1 8 1", "1 0 0", []string{"put 0 0", "put 0 0"}, []int{1, 0, 3, 4, 2}, 3, "", ""},
	})
}

// P31.1: a pick that can't be done is the end, though a later one of that agent, or of another one, could.
func TestWhatCannot(t *testing.T) {
	holdScripts(t, []script{
		{"a full buffer", "manual tso 1 8 1", "1 0 0", []string{"put 0 0; put 0 1"}, []int{0, 0, 1, 0, 1}, 1, "", ""},
		{"one with room", "manual tso 1 8 1", "1 0 0", []string{"put 0 0; put 0 1"}, []int{0, 1, 0, 1}, 4, "", ""},
		{"a fence", "manual tso 1 8 2", "1 0 0", []string{"put 0 0; put 0 1; fence"}, []int{0, 0, 2, 1, 1, 0}, 2, "", ""},
		{"a fence behind one of two", "manual tso 1 8 2", "1 0 0", []string{"put 0 0; put 0 1; fence"}, []int{0, 0, 1, 0, 1, 0}, 3, "", ""},
		{"a fence behind both", "manual tso 1 8 2", "1 0 0", []string{"put 0 0; put 0 1; fence"}, []int{0, 0, 1, 1, 0}, 5, "", ""},
		{"a swap", "manual tso 1 8 2", "1 0 0", []string{"put 0 0; swap 0 1 2 0"}, []int{0, 0, 1}, 1, "", ""},
		{"a trapped thread", "manual sc 1 8 1", "0 0 0", []string{"free 0; set 0 1", "set 0 1"}, []int{0, 0, 1}, 1, "1: wild 0 0", "wild 0 0"},
		{"a halted thread", "manual sc 1 8 1", "0 0 0", []string{"halt; set 0 1", "free 0"}, []int{0, 0, 1}, 1, "", ""},
		{"steps between two instructions", "hazard sc 1 8 1", "0 1 1", []string{"new 0; retire 0"}, []int{0, 0, 0, 0, 0}, 4, "", ""},
	})
}

// P31.1: the last pick that was done counts, whatever those ahead of it told.
func TestLast(t *testing.T) {
	two := []string{"new 0; free 0; free 0", "set 0 1; free 0"}
	holdScripts(t, []script{
		{"nothing behind something", "manual sc 1 8 1", "0 1 0", two, []int{0, 0, 0, 1}, 4, "3: doublefree 0 2", "doublefree 0 2"},
		{"nothing behind something, and one that can't", "manual sc 1 8 1", "0 1 0", two, []int{0, 0, 0, 1, 0, 1}, 4, "3: doublefree 0 2", "doublefree 0 2"},
		{"something behind something", "manual sc 1 8 1", "0 1 0", two, []int{0, 0, 0, 1, 1}, 5, "3: doublefree 0 2; 5: wild 1 1", "doublefree 0 2, wild 1 1"},
		{"something, and then something that rises ahead", "manual sc 1 8 1", "0 1 0", two, []int{1, 1, 0, 0, 0}, 5, "2: wild 1 1; 5: doublefree 0 2", "doublefree 0 2, wild 1 1"},
		{"two at once", "manual sc 1 8 1", "0 2 0", []string{"new 1; new 0; free 0; free 0"}, []int{0, 0, 0, 0}, 4, "4: doublefree 0 3, leak 0 0", "doublefree 0 3, leak 0 0"},
		{"three at once", "manual sc 1 8 1", "0 3 0", []string{"new 1; new 0; free 0; new 2; free 1; free 1; halt", "new 0"}, []int{0, 1, 0, 0, 0, 0, 0}, 7, "7: doublefree 0 5, leak 0 3, leak 1 0", "doublefree 0 5, leak 0 3, leak 1 0"},
	})
}

// storesTwice puts two stores of one instruction into the buffer of the thread 1, while the cell is freed by thread 0.
var storesTwice = []string{"new 0; put 0 0; free 0", "look 0 0; store 0 1 0; jump 1"}

// P31.1: a key that several picks tell stands once among all that was told, and the first of these picks counts.
func TestToldTwice(t *testing.T) {
	holdScripts(t, []script{
		{"told twice", "manual tso 1 4 2", "1 1 0", storesTwice, []int{0, 0, 2, 1, 1, 1, 1, 0, 3, 3}, 10, "9: uaf 1 1; 10: uaf 1 1", "uaf 1 1"},
		{"told once", "manual tso 1 4 2", "1 1 0", storesTwice, []int{0, 0, 2, 1, 1, 1, 3, 1, 0, 3}, 10, "10: uaf 1 1", "uaf 1 1"},
		{"not told", "manual tso 1 4 2", "1 1 0", storesTwice, []int{0, 0, 2, 1, 1, 1, 3, 1, 3, 0}, 10, "", ""},
		{"told twice, and nothing behind", "manual tso 1 5 2", "1 1 0", storesTwice, []int{0, 0, 2, 1, 1, 1, 1, 0, 3, 3, 1}, 11, "9: uaf 1 1; 10: uaf 1 1", "uaf 1 1"},
		{"told three times, others between", "manual tso 1 6 3", "1 1 0", append(slices.Clone(storesTwice), "free 0", "free 1"), []int{0, 0, 4, 1, 1, 1, 1, 1, 1, 0, 5, 3, 5, 2, 5}, 15,
			"11: uaf 1 1; 12: wild 3 0; 13: uaf 1 1; 14: wild 2 0; 15: uaf 1 1", "uaf 1 1, wild 2 0, wild 3 0"},
		{"leaks of one instruction", "manual sc 1 4 1", "0 2 0", []string{"new 0; jump 0"}, []int{0, 0, 0, 0}, 4, "4: leak 0 0", "leak 0 0"},
	})
}

// P31.1: all that was told rises, in whatever order it was told.
func TestRising(t *testing.T) {
	four := []string{"new 3; new 0; set 1 2; put 0 0; swap 2 1 1 0", "new 0; free 0; load 1 0 0", "new 0; retire 0; retire 0", "load 0 0 0"}
	back := []string{"new 0; put 0 0; free 0; new 1; halt", "look 0 0; jump 3; store 0 1 0; store 0 1 1; jump 2"}
	holdScripts(t, []script{
		{"kinds fall", "manual sc 1 8 1", "1 6 0", four, []int{0, 0, 0, 0, 3, 0, 2, 2, 2, 1, 1, 1}, 12, "5: wild 3 0; 6: aba 0 4; 9: doubleretire 2 2; 12: uaf 1 2, leak 0 0", "uaf 1 2, doubleretire 2 2, aba 0 4, wild 3 0, leak 0 0"},
		{"kinds rise", "manual sc 1 8 1", "1 6 0", four, []int{0, 0, 0, 0, 1, 1, 1, 2, 2, 2, 0, 3}, 12, "7: uaf 1 2; 10: doubleretire 2 2; 11: aba 0 4; 12: wild 3 0, leak 0 0", "uaf 1 2, doubleretire 2 2, aba 0 4, wild 3 0, leak 0 0"},
		{"kinds neither rise nor fall", "manual sc 1 8 1", "1 6 0", four, []int{0, 0, 0, 0, 2, 2, 2, 3, 1, 1, 1, 0}, 12, "7: doubleretire 2 2; 8: wild 3 0; 11: uaf 1 2; 12: aba 0 4, leak 0 0", "uaf 1 2, doubleretire 2 2, aba 0 4, wild 3 0, leak 0 0"},
		{"threads fall", "manual sc 1 8 1", "0 0 0", []string{"free 0", "free 0", "free 0", "free 0"}, []int{3, 2, 1, 0}, 4, "1: wild 3 0; 2: wild 2 0; 3: wild 1 0; 4: wild 0 0", "wild 0 0, wild 1 0, wild 2 0, wild 3 0"},
		{"threads fall, places rise", "manual sc 1 8 1", "0 0 0", []string{"halt", "set 0 1; free 0", "free 0"}, []int{2, 1, 1}, 3, "1: wild 2 0; 3: wild 1 1", "wild 1 1, wild 2 0"},
		{"threads rise, kinds fall", "manual sc 1 8 1", "0 1 0", []string{"free 0", "new 0; free 0; free 0"}, []int{0, 1, 1, 1}, 4, "1: wild 0 0; 4: doublefree 1 2", "doublefree 1 2, wild 0 0"},
		{"places fall", "manual tso 1 8 2", "1 1 0", back, []int{0, 0, 2, 1, 1, 1, 1, 1, 0, 3, 3}, 11, "10: uaf 1 3; 11: uaf 1 2", "uaf 1 2, uaf 1 3"},
		{"places fall, and one is told again", "manual tso 1 8 3", "1 1 0", back, []int{0, 0, 2, 1, 1, 1, 1, 1, 1, 0, 3, 3, 3}, 13, "11: uaf 1 3; 12: uaf 1 2; 13: uaf 1 3", "uaf 1 2, uaf 1 3"},
		{"leaks at the end", "manual sc 1 8 1", "0 4 0", []string{"set 0 1; new 0; new 1", "new 1; free 0", "new 3"}, []int{2, 0, 0, 0, 1, 1}, 6, "6: wild 1 1, leak 0 1, leak 0 2, leak 1 0, leak 2 0", "wild 1 1, leak 0 1, leak 0 2, leak 1 0, leak 2 0"},
		{"leaks that a buffer tells", "manual tso 1 8 2", "1 1 0", []string{"new 0; put 0 0; put 0 1"}, []int{0, 0, 0, 1, 1}, 5, "5: leak 0 0", "leak 0 0"},
		{"leaks beside what a buffer tells", "manual tso 1 6 2", "1 1 0", []string{"new 0; put 0 0; free 0; new 1", "look 0 0; store 0 1 0"}, []int{0, 0, 2, 1, 1, 0, 0, 3}, 8, "8: uaf 1 1, leak 0 3", "uaf 1 1, leak 0 3"},
	})
}

// P31.1: whichever of all orders keys are told in, all that was told rises.
func TestEachOrder(t *testing.T) {
	x := newRun(t, "manual sc 1 8 1", "0 6 0", "new 0; free 0; free 0; halt", "new 0; retire 0; retire 0", "free 0", "set 0 1; load 1 0 1")
	want := keys(t, "doublefree 0 2, doubleretire 1 2, wild 2 0, wild 3 1")
	for order := range 1 << 8 {
		var picks, ends []int
		for i := range 4 {
			ends = append(ends, order>>(2*i)&3)
		}
		slices.Sort(ends)
		if !slices.Equal(ends, []int{0, 1, 2, 3}) {
			continue
		}
		picks = append(picks, 0, 0, 1, 1, 3)
		for i := range 4 {
			picks = append(picks, order>>(2*i)&3)
		}
		x.hold(t, picks)
		x.holdRun(t, picks, 9, []api.Key{want[picks[8]]}, want)
	}
}

// states are written out: what is there behind schedules of one thread, whose stores wait.
func states() []struct {
	l    []int
	want api.State
} {
	w := api.Word{N: 1, Cell: 1, Gen: 1}
	e := api.Entry{Place: api.Place{Kind: api.PlRoot, I: 1}, Word: w, Pc: 1}
	begin := api.State{Threads: []api.Thread{{Fuel: 5}}, Buffers: [][]api.Entry{nil}, Roots: make([]api.Word, 2), Slots: make([]api.Word, 1), Cells: make([]api.Cell, 2), Free: []int{1, 2}, Marks: make([]int64, 1), Counts: make([]int64, 1)}
	taken := begin
	taken.Threads = []api.Thread{{Pc: 1, Fuel: 4, Regs: [4]api.Word{w}}}
	taken.Cells = []api.Cell{{Status: api.Live, Gen: 1}, {}}
	taken.Free = []int{2}
	waits := taken
	waits.Threads = []api.Thread{{Pc: 2, Fuel: 3, Regs: [4]api.Word{w}}}
	waits.Buffers = [][]api.Entry{{e}}
	there := waits
	there.Buffers = begin.Buffers
	there.Roots = []api.Word{{}, w}
	freed := there
	freed.Threads = []api.Thread{{Pc: 3, Fuel: 2, Regs: [4]api.Word{w}}}
	freed.Cells = []api.Cell{{Gen: 1}, {}}
	freed.Free = []int{1, 2}
	trapped := freed
	trapped.Threads = []api.Thread{{Pc: 4, Fuel: 1, Status: api.Trapped, Regs: [4]api.Word{w}}}
	return []struct {
		l    []int
		want api.State
	}{
		{nil, begin}, {[]int{}, begin}, {[]int{1, 0, 0}, begin}, {[]int{2, 0, 0}, begin}, {[]int{-1}, begin}, {[]int{most, 0}, begin}, {[]int{least, 0}, begin},
		{[]int{0}, taken}, {[]int{0, 1, 0}, taken}, {[]int{0, 2}, taken}, {[]int{0, -1, 0, 0}, taken},
		{[]int{0, 0}, waits}, {[]int{0, 0, 3, 1}, waits}, {[]int{0, 0, 1}, there}, {[]int{0, 0, 1, 1, 0}, there}, {[]int{0, 0, 1, 9}, there},
		{[]int{0, 0, 1, 0}, freed}, {[]int{0, 0, 1, 0, 1, 0}, freed}, {[]int{0, 0, 1, 0, 0}, trapped}, {[]int{0, 0, 1, 0, 0, 0, 0, 0}, trapped}, {[]int{0, 0, 1, 0, 0, 1}, trapped},
	}
}

// P31.1: State, written out: at the beginning, where none is done; behind some; behind one that can't; behind the end.
func TestStateWrittenOut(t *testing.T) {
	x := newRun(t, "manual tso 1 5 1", "2 2 1", "new 0; put 1 0; free 0; free 0; halt")
	for _, one := range states() {
		x.holdState(t, one.l, one.want)
		x.hold(t, one.l)
	}
}

// P31.1: of no pick, and of no key that there may be, nothing is shown, and none is the first.
func TestNoKey(t *testing.T) {
	x := newRun(t, "manual sc 1 8 1", "0 1 0", freed...)
	strange := []api.Key{{}, {Kind: api.Leak + 1}, {Kind: -1}, {Kind: api.DoubleFree, Thread: -1, Pc: 2}, {Kind: api.DoubleFree, Pc: -1}, {Kind: least, Thread: least, Pc: least}, {Kind: most, Thread: most, Pc: most}, {Kind: api.DoubleFree, Thread: 4, Pc: 2}, {Kind: api.DoubleFree, Pc: 16}}
	for _, l := range [][]int{nil, {}, {0}, {0, 0}, {0, 0, 0}, {0, 0, 0, 0}, {-1}, {0, 0, -1, 0}} {
		for _, k := range append(strange, beside(key(t, "doublefree 0 2"))...) {
			x.holdShows(t, l, k, false)
			x.holdFirst(t, l, k, 0)
		}
	}
	for k := range mayBe() {
		x.holdShows(t, nil, k, false)
		x.holdFirst(t, nil, k, 0)
		if replay.Shows(x.p, x.c, []int{}, k) || replay.First(x.p, x.c, []int{}, k) != 0 {
			t.Fatalf("%v is told by no pick", k)
		}
	}
}
