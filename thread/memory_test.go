package thread_test

import (
	"slices"
	"testing"

	"warrener/api"
	"warrener/thread"
)

// call is one of those that answer a thread.
type call struct {
	name string
	do   func(th api.Thread) api.Thread
}

// calls are all that answer a thread of one that came in, also where it is as it was.
func calls() []call {
	l := []call{
		{"Start", thread.Start},
		{"Clone", thread.Clone},
		{"Set", func(th api.Thread) api.Thread { return thread.Set(th, 1, api.Word{N: 5, Cell: 5, Gen: 2}) }},
		{"Set of no register", func(th api.Thread) api.Thread { return thread.Set(th, 4, api.Word{N: 5}) }},
	}
	for _, number := range slices.Concat(locals, others, []int{0, -1, 26, least, most}) {
		for _, a := range []int{0, 4} {
			l = append(l, call{"Local", func(th api.Thread) api.Thread {
				th, _ = thread.Local(th, api.Instr{Op: number, A: a, B: 1, C: 2, N: 3})
				return th
			}})
		}
	}
	return l
}

// rooms are the lists in whose midst those of a thread stand.
type rooms struct {
	seen, snap []int64
	bag        []api.Bagged
}

// roomy is a thread whose lists stand in longer ones, from so far on, of so many parts each.
func roomy(seen int, bag int, snap int) (api.Thread, rooms) {
	r := rooms{seen: []int64{1, 2, 3, 4, 5, 6, 7, 8, 9}, snap: []int64{41, 42, 43, 44, 45, 46, 47, 48, 49}, bag: retired(9)}
	th := busy()
	th.Micro.Seen, th.Bag, th.Snap = r.seen[1:1+seen], r.bag[1:1+bag], r.snap[1:1+snap]
	return th, r
}

// asMade tells whether the rooms are as roomy makes them.
func (r rooms) asMade() bool {
	return slices.Equal(r.seen, []int64{1, 2, 3, 4, 5, 6, 7, 8, 9}) && slices.Equal(r.snap, []int64{41, 42, 43, 44, 45, 46, 47, 48, 49}) && slices.Equal(r.bag, retired(9))
}

// spoil writes over all registers and lists of a thread, and all the room behind them.
func spoil(th *api.Thread) {
	for i := range th.Regs {
		th.Regs[i] = api.Word{N: -55, Cell: -55, Gen: -55}
	}
	spoilNumbers(th.Micro.Seen)
	spoilNumbers(th.Snap)
	spoilBag(th.Bag)
}

func spoilNumbers(l []int64) {
	l = l[:cap(l)]
	for i := range l {
		l[i] = -55
	}
}

func spoilBag(l []api.Bagged) {
	l = l[:cap(l)]
	for i := range l {
		l[i] = api.Bagged{Cell: -55, Gen: -56, N: -57}
	}
}

// appendTo appends to each list of a thread, and writes over what came of it.
func appendTo(th api.Thread) {
	spoilNumbers(append(th.Micro.Seen, -9))
	spoilNumbers(append(th.Snap, -9))
	spoilBag(append(th.Bag, api.Bagged{Cell: -1, Gen: -2, N: -3}))
}

// lengths are those of what the micro saw, the bag and the snapshot.
var lengths = [][3]int{{0, 0, 0}, {2, 3, 2}, {1, 2, 0}, {0, 4, 1}, {3, 0, 5}, {7, 7, 7}, {8, 8, 8}}

// P2: a thread that comes in stays as it was, behind the ends of its lists, too, whatever becomes of the answer.
func TestThreadStays(t *testing.T) {
	for _, x := range calls() {
		for _, l := range lengths {
			th, r := roomy(l[0], l[1], l[2])
			was := copied(th)
			behind := x.do(th)
			if !r.asMade() || !same(th, was) {
				t.Fatalf("%s turned the thread that came in: %+v was %+v", x.name, th, was)
			}
			appendTo(behind)
			spoil(&behind)
			if !r.asMade() || !same(th, was) {
				t.Fatalf("%s: the thread behind it shares memory with the one that came in", x.name)
			}
		}
	}
}

// P2: what becomes of the thread that came in does not change the answer, nor does what becomes of another answer.
func TestAnswerStays(t *testing.T) {
	for _, x := range calls() {
		for _, l := range lengths {
			th, r := roomy(l[0], l[1], l[2])
			behind, other := x.do(th), x.do(th)
			want := copied(behind)
			appendTo(other)
			spoil(&other)
			appendTo(th)
			spoil(&th)
			spoilNumbers(r.seen)
			spoilNumbers(r.snap)
			spoilBag(r.bag)
			if !same(behind, want) {
				t.Fatalf("%s: the answer shares memory with what came in, or with another answer: %+v was %+v", x.name, behind, want)
			}
		}
	}
}

// P2: lists of a thread that share memory with each other come out apart.
func TestSharedListsComeApart(t *testing.T) {
	for _, x := range calls() {
		for _, l := range lengths {
			th, r := roomy(l[0], l[1], l[2])
			th.Snap = r.seen[0 : l[2]+1]
			behind := x.do(th)
			want := copied(behind)
			spoilNumbers(behind.Snap)
			behind.Snap = want.Snap
			if !same(behind, want) || !r.asMade() {
				t.Fatalf("%s: what the micro saw, and the snapshot, share memory", x.name)
			}
			spoilNumbers(behind.Micro.Seen)
			behind.Micro.Seen = want.Micro.Seen
			if !same(behind, want) || !r.asMade() {
				t.Fatalf("%s: the snapshot, and what the micro saw, share memory", x.name)
			}
		}
	}
}

// P2: a register set in one thread is seen in no other one: neither in the one it came from, nor in what came of both.
func TestRegistersApart(t *testing.T) {
	first := thread.Set(busy(), 0, api.Word{N: 1})
	second := thread.Set(first, 0, api.Word{N: 2})
	third := thread.Clone(second)
	third.Regs[0] = api.Word{N: 3}
	fourth, _ := thread.Local(second, api.Instr{Op: api.OpSet, A: 0, N: 4})
	for i, th := range []api.Thread{first, second, third, fourth} {
		if got := thread.Get(th, 0); got != (api.Word{N: int64(i + 1)}) {
			t.Errorf("register 0 of the %d-th is %+v", i, got)
		}
	}
}

// P2: threads that begin, of one config and of two, share nothing.
func TestBeginApart(t *testing.T) {
	c := api.Config{Scheme: api.Hazard, Fuel: 5}
	first, second := thread.Begin(c), thread.Begin(c)
	appendTo(first)
	spoil(&first)
	if want := (api.Thread{Fuel: 5}); !same(second, want) || !same(thread.Begin(c), want) {
		t.Fatalf("two beginnings share memory: %+v", second)
	}
}

// P2: Done, Next and Get turn neither the thread nor the code, behind their lists' ends, too.
func TestAsking(t *testing.T) {
	for _, l := range lengths {
		for _, pc := range []int{-1, 0, 1, 2, 3, most} {
			th, r := roomy(l[0], l[1], l[2])
			th.Status, th.Pc, th.Micro.Kind = api.Running, pc, api.MiNone
			instrs, was := code(9)[1:4], copied(th)
			thread.Done(th, instrs)
			thread.Next(th, instrs)
			thread.Get(th, 2)
			if !r.asMade() || !same(th, was) || !slices.Equal(instrs[:cap(instrs)][:8], code(9)[1:]) {
				t.Fatalf("at %d the thread or the code was turned: %+v was %+v, %v", pc, th, was, instrs)
			}
		}
	}
}

// P3: what is answered hangs on the arguments alone: the same again, and behind any other calls.
func TestAgain(t *testing.T) {
	c := chance(11)
	var threads []api.Thread
	var instrs []api.Instr
	for range 2000 {
		threads, instrs = append(threads, c.thread()), append(instrs, c.instr())
	}
	for i := len(threads) - 1; i >= 0; i-- {
		holdLocal(t, threads[i], instrs[i])
		holdDone(t, threads[i], instrs[:i%17])
	}
	for i := range threads {
		holdLocal(t, threads[i], instrs[i])
		holdDone(t, threads[i], instrs[:i%17])
	}
}

// P1: long lists come to an end, and soon.
func TestLong(t *testing.T) {
	const long = 1 << 18
	th := busy()
	th.Micro.Seen, th.Bag, th.Snap = make([]int64, long), retired(long), make([]int64, long)
	l := make([]api.Instr, long)
	l[long-1] = api.Instr{Op: api.OpHalt}
	th.Pc, th.Status, th.Micro.Kind = long-1, api.Running, api.MiNone
	if x, ok := thread.Next(th, l); !ok || x.Op != api.OpHalt || thread.Done(th, l) {
		t.Fatal("the last of long code is not the next one")
	}
	for _, x := range calls() {
		got := x.do(th)
		if !slices.Equal(got.Micro.Seen, th.Micro.Seen) || !slices.Equal(got.Bag, th.Bag) || !slices.Equal(got.Snap, th.Snap) {
			t.Fatalf("%s does not keep long lists", x.name)
		}
	}
}
