package scheme_test

import (
	"slices"
	"testing"

	"warrener/api"
	"warrener/scheme"
)

// call is one of those that answer a thread.
type call struct {
	name string
	do   func(p api.Prog, c api.Config, me int, th api.Thread, n int64) ([]api.Bagged, api.Thread)
}

// calls are all that answer a thread, and what goes, if anything does.
func calls() []call {
	return []call{
		{"See", func(p api.Prog, c api.Config, me int, th api.Thread, n int64) ([]api.Bagged, api.Thread) {
			return nil, scheme.See(p, c, me, th, n)
		}},
		{"Advanced", func(p api.Prog, c api.Config, me int, th api.Thread, n int64) ([]api.Bagged, api.Thread) {
			return nil, scheme.Advanced(th, n > 2)
		}},
		{"Release", func(p api.Prog, c api.Config, me int, th api.Thread, n int64) ([]api.Bagged, api.Thread) {
			return scheme.Release(c, th)
		}},
		{"Quieted", func(p api.Prog, c api.Config, me int, th api.Thread, n int64) ([]api.Bagged, api.Thread) {
			return nil, scheme.Quieted(c, th)
		}},
	}
}

// rooms are the lists in whose midst those of a thread stand.
type rooms struct {
	seen, snap []int64
	bag        []api.Bagged
}

// roomy is a thread whose lists stand in longer ones, from so far on, of so many parts each.
func roomy(m api.Micro, seen int, bag int, snap int) (api.Thread, rooms) {
	r := rooms{seen: []int64{1, 2, 3, 4, 5, 6, 7, 8, 9}, snap: []int64{41, 42, 43, 44, 45, 46, 47, 48, 49}, bag: retired(9)}
	th := thread(m)
	th.Micro.Seen, th.Bag, th.Snap = r.seen[1:1+seen], r.bag[1:1+bag], r.snap[1:1+snap]
	return th, r
}

// asMade tells whether the rooms are as roomy makes them.
func (r rooms) asMade() bool {
	return slices.Equal(r.seen, []int64{1, 2, 3, 4, 5, 6, 7, 8, 9}) && slices.Equal(r.snap, []int64{41, 42, 43, 44, 45, 46, 47, 48, 49}) && slices.Equal(r.bag, retired(9))
}

// spoil writes over all lists of a thread, and all the room behind them.
func spoil(th api.Thread) {
	spoilNumbers(th.Micro.Seen)
	spoilBag(th.Bag)
	spoilNumbers(th.Snap)
}

func spoilNumbers(l []int64) {
	l = l[:cap(l)]
	for i := range l {
		l[i] = -55
	}
}

func spoilBag(l []api.Bagged) {
	l = l[:cap(l)]
	for i := range l {
		l[i] = api.Bagged{Cell: -55, Gen: -56, N: -57}
	}
}

// eachCall goes through all calls, schemes, kinds of micros and places, with lists of some lengths.
func eachCall(yield func(x call, c api.Config, m api.Micro, lengths [3]int)) {
	for _, x := range calls() {
		for _, number := range []int{api.Manual, api.Hazard, api.Epoch, api.Quiet, -1, 4} {
			for kind := range 10 {
				for i := -1; i <= 4; i++ {
					for _, lengths := range [][3]int{{0, 0, 0}, {2, 3, 2}, {1, 2, 0}, {0, 4, 1}, {7, 7, 7}} {
						yield(x, api.Config{Scheme: number, Threshold: 2}, api.Micro{Kind: kind, I: i, N: 26}, lengths)
					}
				}
			}
		}
	}
}

// P2: a thread that comes in stays as it was, behind the ends of its lists, too; so does the program.
func TestThreadStays(t *testing.T) {
	eachCall(func(x call, c api.Config, m api.Micro, lengths [3]int) {
		for _, n := range []int64{0, 3, 53} {
			th, r := roomy(m, lengths[0], lengths[1], lengths[2])
			was, p := copied(th), program(2, 1)
			_, behind := x.do(p, c, 1, th, n)
			if !r.asMade() || !same(th, was) {
				t.Fatalf("%s with %+v turned the thread that came in: %+v was %+v", x.name, c, th, was)
			}
			spoil(behind)
			if !r.asMade() || !same(th, was) {
				t.Fatalf("%s with %+v, %+v: the thread behind it shares memory with the one that came in", x.name, c, m)
			}
		}
	})
}

// P2: what becomes of the thread that came in does not change the answer, nor does what becomes of another answer.
func TestAnswerStays(t *testing.T) {
	eachCall(func(x call, c api.Config, m api.Micro, lengths [3]int) {
		th, r := roomy(m, lengths[0], lengths[1], lengths[2])
		p := program(2, 1)
		gone, behind := x.do(p, c, 1, th, 3)
		wantGone, want := slices.Concat(gone), copied(behind)
		otherGone, other := x.do(p, c, 1, th, 3)
		spoilBag(otherGone)
		spoil(other)
		spoilNumbers(r.seen)
		spoilNumbers(r.snap)
		spoilBag(r.bag)
		if !slices.Equal(gone, wantGone) || !same(behind, want) {
			t.Fatalf("%s with %+v, %+v: the answer shares memory with what came in, or with another answer", x.name, c, m)
		}
	})
}

// P2: no two lists of one answer share any: a write into one, to its room's end, and an append to it are seen in no other.
func TestListsApart(t *testing.T) {
	more := api.Bagged{Cell: -1, Gen: -2, N: -3}
	eachCall(func(x call, c api.Config, m api.Micro, lengths [3]int) {
		for turn := range 4 {
			th, _ := roomy(m, lengths[0], lengths[1], lengths[2])
			gone, behind := x.do(program(2, 1), c, 1, th, 3)
			wantGone, want := slices.Concat(gone), copied(behind)
			switch turn {
			case 0:
				spoilBag(append(gone, more))
				spoilBag(gone)
				gone = wantGone
			case 1:
				spoilBag(append(behind.Bag, more))
				spoilBag(behind.Bag)
				behind.Bag = want.Bag
			case 2:
				spoilNumbers(append(behind.Snap, -9))
				spoilNumbers(behind.Snap)
				behind.Snap = want.Snap
			case 3:
				spoilNumbers(append(behind.Micro.Seen, -9))
				spoilNumbers(behind.Micro.Seen)
				behind.Micro.Seen = want.Micro.Seen
			}
			if !slices.Equal(gone, wantGone) || !same(behind, want) {
				t.Fatalf("%s with %+v, %+v: two lists of its answer share memory", x.name, c, m)
			}
		}
	})
}

// P2: lists of a thread that share memory with each other come out apart.
func TestSharedListsComeApart(t *testing.T) {
	eachCall(func(x call, c api.Config, m api.Micro, lengths [3]int) {
		th, r := roomy(m, 3, lengths[1], 0)
		th.Snap = r.seen[0:4]
		_, behind := x.do(program(2, 1), c, 1, th, 3)
		want := copied(behind)
		spoilNumbers(behind.Snap)
		behind.Snap = want.Snap
		if !same(behind, want) || !r.asMade() {
			t.Fatalf("%s with %+v, %+v: what the micro saw, and the snapshot, share memory", x.name, c, m)
		}
	})
}

// P2: Begin's answer, and the thread, are apart; the thread and the program stay as they were.
func TestBeginApart(t *testing.T) {
	for _, number := range schemes {
		for kind := range 10 {
			th, r := roomy(api.Micro{Kind: kind, I: 1, N: 2}, 3, 4, 2)
			was, p := copied(th), program(3, 2)
			for _, snap := range [][]int64{th.Snap, nil} {
				th.Snap, was.Snap = snap, slices.Concat(snap)
				m := scheme.Begin(p, api.Config{Scheme: number, Threshold: 2}, th)
				spoilNumbers(append(m.Seen, -1))
				if !r.asMade() || !same(th, was) {
					t.Fatalf("Begin with scheme %d turned the thread, or shares memory with it", number)
				}
			}
		}
	}
}

// P2: no call turns the program that comes in.
func TestProgramStays(t *testing.T) {
	c := chance(9)
	for range 2000 {
		p, conf, th := c.prog(), c.config(), c.thread()
		p.Code = append(p.Code, []api.Instr{{Op: api.OpSet, A: 1, N: 5}})
		was := slices.Clone(p.Code)
		for i, code := range was {
			was[i] = slices.Clone(code)
		}
		scheme.Begin(p, conf, th)
		scheme.Reads(p, th.Micro)
		scheme.See(p, conf, c.next(4), th, c.number())
		scheme.Factor(p, conf)
		scheme.Bound(p, conf)
		if !slices.EqualFunc(p.Code, was, slices.Equal) {
			t.Fatalf("a program was turned: %v was %v", p.Code, was)
		}
	}
}

// P1: long lists come to an end, and soon.
func TestLong(t *testing.T) {
	const long = 1 << 16
	th := with(thread(api.Micro{Kind: api.MiGuards, I: 1, Seen: make([]int64, long)}), retired(long))
	th.Snap = make([]int64, long)
	p := api.Prog{Slots: 2, Code: make([][]api.Instr, long)}
	for number := range 5 {
		conf := api.Config{Scheme: number, Threshold: long, Fuel: long}
		for kind := range 10 {
			th.Micro.Kind, th.Micro.I = kind, long-1
			th.Micro.N, th.Old = 30, long/2
			holdLong(t, p, conf, th)
		}
	}
}

// holdLong fails if a call on a long thread answers otherwise than the page says.
func holdLong(t *testing.T, p api.Prog, c api.Config, th api.Thread) {
	t.Helper()
	if !same(scheme.See(p, c, 0, th, 1), seeWants(p, c, 0, th, 1)) || !same(scheme.Quieted(c, th), quietedWants(c, th)) || !same(scheme.Advanced(th, true), advancedWants(th, true)) {
		t.Fatalf("with scheme %d, kind %d a long thread goes on otherwise", c.Scheme, th.Micro.Kind)
	}
	gone, behind := scheme.Release(c, th)
	if c.Scheme == api.Hazard {
		// None of the zeros that were seen is one of these cells.
		if len(gone) != len(th.Bag) || len(behind.Bag) != 0 {
			t.Fatalf("of a long bag %d go, %d stay", len(gone), len(behind.Bag))
		}
		return
	}
	wantGone, want := releaseWants(c, th)
	if !slices.Equal(gone, wantGone) || !same(behind, want) {
		t.Fatalf("with scheme %d a long bag is let go otherwise", c.Scheme)
	}
}
