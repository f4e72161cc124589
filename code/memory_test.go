package code_test

import (
	"bytes"
	"reflect"
	"slices"
	"sync"
	"testing"

	"warrener/api"
	"warrener/code"
)

// roomy is a state whose lists have room behind their ends, in which something stands.
func roomy(s api.State) api.State {
	s = copied(s)
	for i := range s.Threads {
		th := &s.Threads[i]
		th.Micro.Seen = append(th.Micro.Seen, 91, 92)[:len(th.Micro.Seen)]
		th.Bag = append(th.Bag, api.Bagged{Cell: 93})[:len(th.Bag)]
		th.Snap = append(th.Snap, 94)[:len(th.Snap)]
	}
	for i, l := range s.Buffers {
		s.Buffers[i] = append(l, api.Entry{Pc: 95})[:len(l)]
	}
	s.Threads = append(s.Threads, api.Thread{Pc: 96})[:len(s.Threads)]
	s.Buffers = append(s.Buffers, []api.Entry{{Gen: 97}})[:len(s.Buffers)]
	s.Roots, s.Slots = append(s.Roots, api.Word{N: 98})[:len(s.Roots)], append(s.Slots, api.Word{N: 99})[:len(s.Slots)]
	s.Cells, s.Free = append(s.Cells, api.Cell{By: 90})[:len(s.Cells)], append(s.Free, 89)[:len(s.Free)]
	s.Marks, s.Counts = append(s.Marks, 88)[:len(s.Marks)], append(s.Counts, 87)[:len(s.Counts)]
	return s
}

// whole is a state with all that stands behind its lists' ends.
func whole(s api.State) api.State {
	s.Threads = slices.Clone(s.Threads[:cap(s.Threads)])
	for i, th := range s.Threads {
		s.Threads[i].Micro.Seen, s.Threads[i].Bag, s.Threads[i].Snap = th.Micro.Seen[:cap(th.Micro.Seen)], th.Bag[:cap(th.Bag)], th.Snap[:cap(th.Snap)]
	}
	s.Buffers = slices.Clone(s.Buffers[:cap(s.Buffers)])
	for i, l := range s.Buffers {
		s.Buffers[i] = l[:cap(l)]
	}
	s.Roots, s.Slots, s.Cells, s.Free = s.Roots[:cap(s.Roots)], s.Slots[:cap(s.Slots)], s.Cells[:cap(s.Cells)], s.Free[:cap(s.Free)]
	s.Marks, s.Counts = s.Marks[:cap(s.Marks)], s.Counts[:cap(s.Counts)]
	return copied(s)
}

// P2: what came in stays as it was, behind its lists' ends, too; what stands there is not told.
func TestStays(t *testing.T) {
	for _, plain := range append(states(47, 500), full(4, 4)) {
		s := roomy(plain)
		was := whole(s)
		holdOctets(t, "Put", code.Put(s), stateRow(plain))
		holdOctets(t, "Shared", code.Shared(s), sharedRow(plain))
		for i, th := range s.Threads {
			holdOctets(t, "Thread", code.Thread(th), threadRow(plain.Threads[i]))
		}
		for i, l := range s.Buffers {
			holdOctets(t, "Buffer", code.Buffer(l), bufferRow(plain.Buffers[i]))
		}
		if code.Hash(s) != code.Hash(plain) {
			t.Fatal("what stands behind lists is in the sum")
		}
		if !reflect.DeepEqual(whole(s), was) {
			t.Fatalf("what came in was turned: %+v", whole(s))
		}
	}
	b := append(octetsOf(1, 2, 3), 4, 5)
	was := slices.Clone(b)
	for _, i := range places {
		code.Part(i, b[:24])
	}
	if !bytes.Equal(b, was) {
		t.Fatalf("Part turned the octets: %v", b)
	}
}

// spoil writes over octets, and over all the room behind them.
func spoil(b []byte) {
	b = b[:cap(b)]
	for i := range b {
		b[i] = 0xAA
	}
}

// P2: octets that were answered and are turned are seen in no later answer, nor in one that was answered ahead; a state that is turned behind the call is seen in none.
func TestApart(t *testing.T) {
	for _, plain := range append(states(53, 300), full(4, 4), api.State{}) {
		s := roomy(plain)
		row, sum := stateRow(s), code.Hash(s)
		first, shared := code.Put(s), code.Shared(s)
		spoil(code.Put(s))
		spoil(code.Shared(s))
		spoil(append(code.Put(s), 1))
		for i, th := range s.Threads {
			spoil(code.Thread(th))
			b := code.Thread(th)
			spoil(code.Thread(th))
			holdOctets(t, "Thread", b, threadRow(plain.Threads[i]))
		}
		for i, l := range s.Buffers {
			spoil(code.Buffer(l))
			b := code.Buffer(l)
			spoil(code.Buffer(l))
			holdOctets(t, "Buffer", b, bufferRow(plain.Buffers[i]))
		}
		holdOctets(t, "Put", code.Put(s), row)
		if code.Hash(s) != sum {
			t.Fatal("a turned answer is seen in a sum")
		}
		for _, v := range leaves(reflect.ValueOf(&s).Elem()) {
			v.SetInt(-77)
		}
		holdOctets(t, "Put, of a state that was turned later", first, row)
		holdOctets(t, "Shared, of a state that was turned later", shared, sharedRow(plain))
	}
}

// P3: what is answered hangs on the arguments alone: the same again, and behind any other calls.
func TestAgain(t *testing.T) {
	l := states(59, 500)
	for i := len(l) - 1; i >= 0; i-- {
		holdOctets(t, "Put", code.Put(l[i]), stateRow(l[i]))
	}
	for _, s := range l {
		holdOctets(t, "Put", code.Put(s), stateRow(s))
		if code.Hash(s) != hashWants(s) {
			t.Fatal("the sum is another one later")
		}
	}
}

// P3: the calls tell the same whatever runs beside them.
func TestBeside(t *testing.T) {
	l := states(61, 50)
	var wait sync.WaitGroup
	for range 16 {
		wait.Go(func() {
			for _, s := range l {
				b := code.Put(s)
				if !bytes.Equal(b, octetsOf(stateRow(s)...)) || code.Hash(s) != hashWants(s) {
					t.Errorf("%+v: %v", s, b)
				}
				spoil(b)
			}
		})
	}
	wait.Wait()
}

// P1: long lists come to an end, and soon.
func TestLong(t *testing.T) {
	const long = 1 << 15
	th := api.Thread{Micro: api.Micro{Seen: make([]int64, long)}, Bag: make([]api.Bagged, long), Snap: make([]int64, long)}
	buffer := make([]api.Entry, long)
	s := api.State{Roots: make([]api.Word, long), Slots: make([]api.Word, long), Cells: make([]api.Cell, long), Free: make([]int, long), Marks: make([]int64, long), Counts: make([]int64, long)}
	for i := range long {
		th.Micro.Seen[i], th.Bag[i].Gen, th.Snap[i], buffer[i].Pc, s.Slots[i].Cell, s.Cells[i].F[1].N, s.Counts[i] = int64(i), i, int64(-i), i, i, int64(i), int64(i)
	}
	holdOctets(t, "a long thread", code.Thread(th), threadRow(th))
	holdOctets(t, "a long buffer", code.Buffer(buffer), bufferRow(buffer))
	holdOctets(t, "long lists", code.Shared(s), sharedRow(s))
	s.Threads, s.Buffers = make([]api.Thread, long), make([][]api.Entry, long)
	s.Threads[long-1], s.Buffers[long-1] = th, buffer
	holdOctets(t, "a long state", code.Put(s), stateRow(s))
	if code.Hash(s) != hashWants(s) {
		t.Fatal("the sum of a long state")
	}
}
