package act_test

import (
	"reflect"
	"slices"
	"sync"
	"testing"

	"warrener/act"
	"warrener/api"
)

// P2: a program and a thread that came in are as they were, behind their lists' ends, too.
func TestStays(t *testing.T) {
	c := chance(11)
	for range 3000 {
		p, th := c.prog(), c.thread()
		p.Code = append(p.Code, []api.Instr{{Op: 99}})[:len(p.Code)]
		for i := range p.Code {
			p.Code[i] = append(p.Code[i], api.Instr{Op: 98, A: 1})[:len(p.Code[i])]
		}
		th.Bag, th.Snap = []api.Bagged{{Cell: 1, Gen: 2, N: 3}, {Cell: 4}}[:1], []int64{7, 8, 9}[:2]
		th.Micro.Seen = []int64{5, 6}[:1]
		i := c.next(len(p.Code))
		want := deep(p, th)
		act.Of(p, i, th, 4)
		if !reflect.DeepEqual(deep(p, th), want) {
			t.Fatalf("Of turned what came in: %+v, %+v", p, th)
		}
	}
}

// deep is all that stands in the lists of a program and a thread, behind their ends, too.
func deep(p api.Prog, th api.Thread) []any {
	var l []any
	for _, code := range p.Code[:cap(p.Code)] {
		l = append(l, slices.Clone(code[:cap(code)]))
	}
	return append(l, p.Roots, p.Cells, p.Slots, len(p.Code), slices.Clone(th.Bag[:cap(th.Bag)]), slices.Clone(th.Snap[:cap(th.Snap)]), slices.Clone(th.Micro.Seen[:cap(th.Micro.Seen)]))
}

// spoil writes over all of a foot, and all the room behind its lists.
func spoil(f api.Foot) {
	for _, l := range [][]api.Place{f.Reads, f.Writes} {
		l = l[:cap(l)]
		for i := range l {
			l[i] = api.Place{Kind: -55, I: -56, J: -57}
		}
	}
}

// P2: a foot that was answered and is turned is seen in no later one, nor in one that was answered ahead; its own two lists share nothing.
func TestFeetApart(t *testing.T) {
	c := chance(13)
	for range 5000 {
		order, a, gone := c.next(3), c.act(), c.gone(4)
		first, second, third := act.Foot(order, a, gone), act.Foot(order, a, gone), act.Foot(order, a, gone)
		reads := slices.Clone(third.Reads)
		spoil(api.Foot{Writes: third.Writes})
		spoil(api.Foot{Writes: append(third.Writes, api.Place{Kind: 1})})
		if !slices.Equal(third.Reads, reads) {
			t.Fatalf("both lists of a foot share memory: %+v", third)
		}
		spoil(second)
		spoil(third)
		if !slices.Equal(first.Reads, readsWants(a)) || !slices.Equal(first.Writes, writesWants(order, a, gone)) {
			t.Fatalf("two feet share memory: %+v", first)
		}
		holdFoot(t, order, a, gone)
	}
}

// P2: the list of those that are gone stays as it is, behind its end, too; that it is turned behind the call is seen in no foot.
func TestGoneStays(t *testing.T) {
	c := chance(17)
	for range 5000 {
		order, a, gone := c.next(2), c.act(), append(c.gone(6), api.Bagged{Cell: 1}, api.Bagged{Cell: 4, Gen: 5, N: 6})
		a.Kind = []int{api.ActRelease, a.Kind}[c.next(2)]
		was := slices.Clone(gone)
		part := gone[:len(gone)-1]
		f := act.Foot(order, a, part)
		if !slices.Equal(gone, was) {
			t.Fatalf("Foot turned the list: %v was %v", gone, was)
		}
		for i := range gone {
			gone[i] = api.Bagged{Cell: -99, Gen: -98, N: -97}
		}
		if !slices.Equal(f.Reads, readsWants(a)) || !slices.Equal(f.Writes, writesWants(order, a, was[:len(part)])) {
			t.Fatalf("a foot keeps the list: %+v", f)
		}
	}
}

// P3: what is answered hangs on the arguments alone: the same again, and behind any other calls.
func TestAgain(t *testing.T) {
	c := chance(19)
	type call struct {
		p   api.Prog
		th  api.Thread
		a   api.Act
		own int64
	}
	var l []call
	for range 2000 {
		l = append(l, call{c.prog(), c.thread(), c.act(), c.number()})
	}
	hold := func(x call, i int) {
		holdOf(t, x.p, i%len(x.p.Code), x.th, x.own)
		holdFoot(t, i%2, x.a, x.th.Bag)
	}
	for i := len(l) - 1; i >= 0; i-- {
		hold(l[i], i)
	}
	for i := range l {
		hold(l[i], i)
	}
}

// P3: the calls tell the same whatever runs beside them.
func TestBeside(t *testing.T) {
	c := chance(23)
	p, th, gone := c.prog(), c.thread(), c.gone(5)
	var wait sync.WaitGroup
	for i := range 16 {
		wait.Go(func() {
			c := chance(i % 4)
			for range 500 {
				a := c.act()
				f := act.Foot(i%2, a, gone)
				if !slices.Equal(f.Reads, readsWants(a)) || !slices.Equal(f.Writes, writesWants(i%2, a, gone)) {
					t.Errorf("Foot of %+v: %+v", a, f)
				}
				spoil(f)
				if got := act.Of(p, i%len(p.Code), th, int64(i)); got != ofWants(p, i%len(p.Code), th, int64(i)) {
					t.Errorf("Of: %+v", got)
				}
			}
		})
	}
	wait.Wait()
}

// P1: long lists come to an end, and soon.
func TestLong(t *testing.T) {
	const long = 1 << 17
	gone := make([]api.Bagged, long)
	for i := range gone {
		gone[i] = api.Bagged{Cell: (i*7919)%long + 1}
	}
	f := act.Foot(api.TSO, api.Act{Kind: api.ActRelease}, gone)
	if len(f.Writes) != 3*long+1 || len(f.Reads) != 0 {
		t.Fatalf("of %d cells %d places are written", long, len(f.Writes))
	}
	th := between(api.Micro{Kind: api.MiMarks, I: 1, Seen: make([]int64, long)})
	th.Bag, th.Snap = gone, make([]int64, long)
	holdOf(t, program(2), 0, th, 0)
	big := api.Prog{Code: make([][]api.Instr, long)}
	holdOfIs(t, big, 1, th, 0, api.Act{})
	holdOfIs(t, api.Prog{Code: [][]api.Instr{make([]api.Instr, long)}}, 0, th, 0, api.Act{})
}
