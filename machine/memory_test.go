package machine_test

import (
	"slices"
	"sync"
	"testing"

	"warrener/api"
	"warrener/machine"
)

// strangers are machines that New did not make, each of them new.
func strangers() []*machine.Machine {
	wrong, _ := machine.New(api.Prog{}, plainConfig)
	other, _ := machine.New(api.Prog{Code: make([][]api.Instr, 1)}, api.Config{})
	return []*machine.Machine{nil, {}, new(machine.Machine), wrong, other, (*machine.Machine)(nil).Clone(), (&machine.Machine{}).Clone()}
}

// P29.2: nil, and a machine that New did not make, answer 0, false, nothing, nil, and are not over, in an order in which none helps the next one.
func TestStrangers(t *testing.T) {
	for i, m := range strangers() {
		for range 2 {
			for _, a := range append([]int{0, 1, 2, 3, 4, 5, 6, 7}, noAgents...) {
				f, has := m.Foot(a)
				keys, ok := m.Step(a)
				if m.Can(a) || has || !sameFoot(f, api.Foot{}) || ok || len(keys) != 0 {
					t.Fatalf("%d: agent %d: %v, %v, %v, %v, %v", i, a, m.Can(a), f, has, keys, ok)
				}
			}
			if m.Agents() != 0 || m.Undo() || m.Hash() != 0 || m.Over() || m.Steps() != 0 {
				t.Fatalf("%d: %d, %d, %v, %d", i, m.Agents(), m.Hash(), m.Over(), m.Steps())
			}
			s := m.State()
			if !sameState(s, api.State{}) {
				t.Fatalf("%d: State() = %+v", i, s)
			}
			if c := m.Clone(); c != nil {
				t.Fatalf("%d: Clone() = %v", i, c)
			}
		}
	}
}

// turned writes over a list, to its room's end.
func turned[T any](l []T, with T) {
	l = l[:cap(l)]
	for i := range l {
		l[i] = with
	}
}

// turnState writes over all lists of a state.
func turnState(s api.State) {
	w := api.Word{N: -55, Cell: 2, Gen: 7}
	for _, th := range s.Threads {
		turned(th.Micro.Seen, -55)
		turned(th.Bag, api.Bagged{Cell: 3, Gen: 3, N: 3})
		turned(th.Snap, -55)
	}
	for _, l := range s.Buffers {
		turned(l, api.Entry{Word: w, Pc: 9})
	}
	turned(s.Threads, api.Thread{Status: api.Trapped, Bag: []api.Bagged{{Cell: 1}}})
	turned(s.Buffers, []api.Entry{{Word: w}})
	turned(s.Roots, w)
	turned(s.Slots, w)
	turned(s.Cells, api.Cell{Status: api.Retired, Gen: 9})
	turned(s.Free, 9)
	turned(s.Marks, -55)
	turned(s.Counts, -55)
}

// turnFoot writes over both lists of a foot.
func turnFoot(f api.Foot) {
	turned(f.Reads, api.Place{Kind: api.PlHeap, I: 9})
	turned(f.Writes, api.Place{Kind: api.PlHeap, I: 9})
}

// turnAnswers writes over all that the machine answers.
func turnAnswers(m *machine.Machine) {
	turnState(m.State())
	for a := range m.Agents() {
		f, _ := m.Foot(a)
		turnFoot(f)
	}
}

// P2: a state, a foot or a list of keys that was answered and is turned is seen in no later answer, nor in one that was answered ahead.
func TestAnswersTurned(t *testing.T) {
	c := chance(43)
	for range 80 {
		x := c.any(16)
		b := newPair(t, x.p, x.c)
		other := b.clone()
		for l := b.able(); len(l) > 0; l = b.able() {
			s, feet := b.m.State(), map[int]api.Foot{}
			for a := range b.m.Agents() {
				feet[a], _ = b.m.Foot(a)
			}
			turnAnswers(b.m)
			if !sameState(s, b.now().s) {
				b.fail("a state that was turned is seen in one that was answered ahead")
			}
			for a, f := range feet {
				if want, _ := b.now().foot(a); !sameFoot(f, want) {
					b.fail("a foot that was turned is seen in one that was answered ahead")
				}
			}
			turnState(s)
			keys, _ := b.step(l[c.next(len(l))])
			turned(keys, api.Key{Kind: 9})
			b.hold()
			turnAnswers(other.m)
		}
		other.hold()
		undoAll(b)
	}
}

// P2: no two lists of one state share any memory: what is appended to one of them, and what is written into it, is seen in no other.
func TestListsApart(t *testing.T) {
	c := chance(47)
	for range 100 {
		x := c.any(16)
		b := newPair(t, x.p, x.c)
		for l := b.able(); len(l) > 0; l = b.able() {
			b.try(l[c.next(len(l))])
		}
		for i := range b.m.Steps() + 1 {
			s := b.m.State()
			for t := range s.Threads {
				for _, l := range [][]int64{s.Threads[t].Micro.Seen, s.Threads[t].Snap, s.Marks, s.Counts} {
					_ = append(l, -55)
				}
				_ = append(s.Threads[t].Bag, api.Bagged{Cell: 9})
				_ = append(s.Buffers[t], api.Entry{Pc: 99})
			}
			_, _ = append(s.Roots, api.Word{N: 99}), append(s.Slots, api.Word{N: 98})
			_, _ = append(s.Cells, api.Cell{Gen: 99}), append(s.Free, 99)
			if !sameState(s, b.now().s) {
				b.fail("%d steps back, what is appended to one list is seen in another one", i)
			}
			b.hold()
			b.undo()
		}
	}
}

// P2: a program that is turned behind New, or behind Clone, is not seen by the machine; the one that came in stays as it was.
func TestProgramTurned(t *testing.T) {
	c := chance(53)
	for range 100 {
		x := c.any(16)
		copied := api.Prog{Roots: x.p.Roots, Cells: x.p.Cells, Slots: x.p.Slots}
		for _, l := range x.p.Code {
			copied.Code = append(copied.Code, slices.Clone(l))
		}
		b := &pair{t: t, m: begun(t, copied, x.c), was: []world{beginning(x.p, x.c)}}
		for i, l := range copied.Code {
			if !slices.Equal(l, x.p.Code[i]) {
				b.fail("New turned the program")
			}
			turned(l, api.Instr{Op: api.OpSet, N: 99})
		}
		clone := b.clone()
		turned(copied.Code, []api.Instr{{Op: 77}})
		for _, d := range []*pair{b, clone} {
			for l := d.able(); len(l) > 0; l = d.able() {
				d.step(l[c.next(len(l))])
			}
		}
	}
}

// P3: what is answered hangs on the program, the config and the picks alone: the same again, behind any other calls, and whatever runs beside them.
func TestBeside(t *testing.T) {
	c := chance(59)
	var l []run
	for range 40 {
		l = append(l, c.any(16))
	}
	picks := func(seed int, x run) ([]int, [][]api.Key, uint64) {
		c, m := chance(seed), begun(t, x.p, x.c)
		var done []int
		var told [][]api.Key
		for range 100 {
			a := c.next(m.Agents())
			if keys, ok := m.Step(a); ok {
				done, told = append(done, a), append(told, keys)
			}
		}
		return done, told, m.Hash()
	}
	type answer struct {
		done []int
		told [][]api.Key
		hash uint64
	}
	var want []answer
	for i, x := range l {
		done, told, hash := picks(i, x)
		want = append(want, answer{done, told, hash})
	}
	var wait sync.WaitGroup
	for range 8 {
		wait.Go(func() {
			for i := len(l) - 1; i >= 0; i-- {
				done, told, hash := picks(i, l[i])
				if !slices.Equal(done, want[i].done) || !slices.EqualFunc(told, want[i].told, slices.Equal) || hash != want[i].hash {
					t.Errorf("%+v: %v, %v, %d, want %+v", l[i], done, told, hash, want[i])
				}
			}
		})
	}
	wait.Wait()
}

// P3: a clone and its origin can be gone on with beside each other.
func TestCloneBeside(t *testing.T) {
	c := chance(61)
	for range 40 {
		x := c.any(16)
		b := newPair(t, x.p, x.c)
		for range 6 {
			b.try(c.next(b.m.Agents()))
		}
		m := b.m.Clone()
		machines := []*machine.Machine{b.m, m, m.Clone()}
		var sums [3]uint64
		var wait sync.WaitGroup
		for i, m := range machines {
			wait.Go(func() {
				for range 200 {
					for a := range m.Agents() {
						m.Step(a)
					}
				}
				sums[i] = m.Hash()
			})
		}
		wait.Wait()
		if sums[0] != sums[1] || sums[1] != sums[2] {
			t.Fatalf("%+v: %v", x, sums)
		}
	}
}

// P1: a machine that steps and goes back very often comes to an end, and keeps nothing of that.
func TestLong(t *testing.T) {
	x := run{p: program(t, "1 1 1", "new 0; put 0 0; retire 0; jump 0", "look 0 0; guard 0 0; jump 0"), c: config(t, "hazard tso 1 16 4")}
	b := newPair(t, x.p, x.c)
	for range 20000 {
		if keys, ok := b.m.Step(0); !ok || len(keys) != 0 {
			b.fail("Step(0) = %v, %v", keys, ok)
		}
		if !b.m.Undo() {
			b.fail("Undo() = false")
		}
	}
	b.hold()
}
