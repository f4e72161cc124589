package replay_test

import (
	"slices"
	"sync"
	"testing"

	"warrener/api"
	"warrener/replay"
)

// turned writes over a list, to its room's end.
func turned[T any](l []T, with T) {
	l = l[:cap(l)]
	for i := range l {
		l[i] = with
	}
}

// turnState writes over all lists of a state.
func turnState(s api.State) {
	w := api.Word{N: -55, Cell: 2, Gen: 7}
	for _, th := range s.Threads {
		turned(th.Micro.Seen, -55)
		turned(th.Bag, api.Bagged{Cell: 3, Gen: 3, N: 3})
		turned(th.Snap, -55)
	}
	for _, l := range s.Buffers {
		turned(l, api.Entry{Word: w, Pc: 9})
	}
	turned(s.Threads, api.Thread{Status: api.Trapped, Bag: []api.Bagged{{Cell: 1}}})
	turned(s.Buffers, []api.Entry{{Word: w}})
	turned(s.Roots, w)
	turned(s.Slots, w)
	turned(s.Cells, api.Cell{Status: api.Retired, Gen: 9})
	turned(s.Free, 9)
	turned(s.Marks, -55)
	turned(s.Counts, -55)
}

// trial is a program, how it is run, and a schedule, of which some tell much.
type trial struct {
	x run
	l []int
}

// trials are some of all kinds.
func trials(t *testing.T, many int) []trial {
	t.Helper()
	l := []trial{
		{newRun(t, "manual sc 1 8 1", "0 1 0", freed...), []int{0, 0, 0}},
		{newRun(t, "manual sc 1 8 1", "0 4 0", "set 0 1; new 0; new 1", "new 1; free 0", "new 3"), []int{2, 0, 0, 0, 1, 1}},
		{newRun(t, "manual tso 1 4 2", "1 1 0", storesTwice...), []int{0, 0, 2, 1, 1, 1, 1, 0, 3, 3}},
		{newRun(t, "hazard tso 2 8 3", "2 2 1", "new 0; put 0 0; guard 0 0; retire 0; new 1; put 1 1", "look 0 0; guard 0 0; load 1 0 0"), []int{0, 0, 0, 0, 2, 1, 1, 0, 0}},
	}
	c := chance(7)
	for range many {
		x := c.any()
		l = append(l, trial{x, c.picks(x.begun(t), 100)})
	}
	return l
}

// P2: keys that were answered and are turned are seen in no other list of that answer, and in no other answer.
func TestKeysTurned(t *testing.T) {
	for _, x := range trials(t, 300) {
		want := byHand(t, x.x, x.l)
		first, _ := replay.Run(x.x.p, x.x.c, x.l)
		second, _ := replay.Run(x.x.p, x.x.c, x.l)
		turned(first.Last, api.Key{Kind: 9})
		turned(append(first.Last, api.Key{Kind: 8}), api.Key{Kind: 7})
		if !slices.Equal(first.All, want.all()) {
			t.Fatalf("%+v: All is %v, with a Last that was turned", x, first.All)
		}
		turned(second.All, api.Key{Kind: 9})
		turned(append(second.All, api.Key{Kind: 8}), api.Key{Kind: 7})
		if !slices.Equal(second.Last, want.last()) {
			t.Fatalf("%+v: Last is %v, with an All that was turned", x, second.Last)
		}
		x.x.hold(t, x.l)
		third, _ := replay.Run(x.x.p, x.x.c, x.l)
		turned(first.All, api.Key{})
		turned(second.Last, api.Key{})
		if !slices.Equal(third.Last, want.last()) || !slices.Equal(third.All, want.all()) {
			t.Fatalf("%+v: %+v, with other answers that were turned", x, third)
		}
	}
}

// P2: a state that was answered and is turned is seen in no other answer.
func TestStatesTurned(t *testing.T) {
	for _, x := range trials(t, 300) {
		want := byHand(t, x.x, x.l)
		first, _ := replay.State(x.x.p, x.x.c, x.l)
		second, _ := replay.State(x.x.p, x.x.c, x.l)
		turnState(first)
		if !sameState(second, want.state) {
			t.Fatalf("%+v: a state that was turned is seen in another one", x)
		}
		x.x.hold(t, x.l)
	}
}

// P2: no two lists of one state share any memory: what is appended to one of them is seen in no other.
func TestListsApart(t *testing.T) {
	for _, x := range trials(t, 300) {
		want := byHand(t, x.x, x.l)
		s, _ := replay.State(x.x.p, x.x.c, x.l)
		for t := range s.Threads {
			_, _ = append(s.Threads[t].Micro.Seen, -55), append(s.Threads[t].Snap, -55)
			_, _ = append(s.Threads[t].Bag, api.Bagged{Cell: 9}), append(s.Buffers[t], api.Entry{Pc: 99})
		}
		_, _ = append(s.Marks, -55), append(s.Counts, -55)
		_, _ = append(s.Roots, api.Word{N: 99}), append(s.Slots, api.Word{N: 98})
		_, _ = append(s.Cells, api.Cell{Gen: 99}), append(s.Free, 99)
		if !sameState(s, want.state) {
			t.Fatalf("%+v: what is appended to one list is seen in another one", x)
		}
	}
}

// roomy is the same program, with room behind each of its lists, and what stands in that room.
func roomy(p api.Prog) api.Prog {
	code := make([][]api.Instr, 0, len(p.Code)+2)
	for _, l := range p.Code {
		room := append(slices.Clone(l), api.Instr{Op: 77}, api.Instr{Op: 78})
		code = append(code, room[:len(l)])
	}
	code = append(code, []api.Instr{{Op: 79}}, nil)
	p.Code = code[:len(p.Code)]
	return p
}

// sameCode tells whether both have the same code, in the room behind it, too.
func sameCode(a api.Prog, b api.Prog) bool {
	whole := func(l [][]api.Instr) [][]api.Instr { return l[:len(l)+2] }
	return slices.EqualFunc(whole(a.Code), whole(b.Code), func(x []api.Instr, y []api.Instr) bool {
		return slices.Equal(x[:cap(x)], y[:cap(y)])
	})
}

// P2: what comes in is as it was behind each call, in the room behind its lists, too.
func TestWhatCameIn(t *testing.T) {
	for _, x := range trials(t, 200) {
		p, was := roomy(x.x.p), roomy(x.x.p)
		room := append(slices.Clone(x.l), 1, 0, 1, 0)
		l, all := room[:len(x.l)], slices.Clone(room)
		r, _ := replay.Run(p, x.x.c, l)
		s, _ := replay.State(p, x.x.c, l)
		for _, k := range append(slices.Clone(r.All), api.Key{}) {
			replay.Shows(p, x.x.c, l, k)
			replay.First(p, x.x.c, l, k)
		}
		turned(r.Last, api.Key{Kind: 9})
		turned(r.All, api.Key{Kind: 9})
		turnState(s)
		if !sameCode(p, was) || !slices.Equal(room, all) {
			t.Fatalf("%+v: %+v, %v: what came in was turned", x, p, room)
		}
	}
}

// P2: what came in is not kept: what was answered is as it was, whatever becomes of that.
func TestNotKept(t *testing.T) {
	for _, x := range trials(t, 200) {
		p, l := roomy(x.x.p), slices.Clone(x.l)
		want := byHand(t, x.x, x.l)
		r, _ := replay.Run(p, x.x.c, l)
		s, _ := replay.State(p, x.x.c, l)
		for _, code := range p.Code {
			turned(code, api.Instr{Op: api.OpHalt})
		}
		turned(p.Code, nil)
		turned(l, 1)
		if r.N != len(want.told) || !slices.Equal(r.Last, want.last()) || !slices.Equal(r.All, want.all()) || !sameState(s, want.state) {
			t.Fatalf("%+v: %+v, %+v: what came in is kept", x, r, s)
		}
		x.x.hold(t, x.l)
	}
}

// P3: what is answered hangs on the arguments alone: the same again, behind other calls, and beside other callers.
func TestBeside(t *testing.T) {
	l := trials(t, 60)
	var want []history
	for _, x := range l {
		want = append(want, byHand(t, x.x, x.l))
	}
	var wait sync.WaitGroup
	for worker := range 8 {
		wait.Go(func() {
			for i := range l {
				i = (i*7 + worker*11) % len(l)
				x, h := l[i], want[i]
				r, _ := replay.Run(x.x.p, x.x.c, x.l)
				s, _ := replay.State(x.x.p, x.x.c, x.l)
				if r.N != len(h.told) || !slices.Equal(r.Last, h.last()) || !slices.Equal(r.All, h.all()) || !sameState(s, h.state) {
					t.Errorf("%+v: %+v, %+v", x, r, s)
				}
				for _, k := range r.All {
					if replay.First(x.x.p, x.x.c, x.l, k) != h.first(k) || replay.Shows(x.x.p, x.x.c, x.l, k) != (r.N == len(x.l) && slices.Contains(h.last(), k)) {
						t.Errorf("%+v: %v", x, k)
					}
				}
			}
		})
	}
	wait.Wait()
}
