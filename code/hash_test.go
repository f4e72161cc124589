package code_test

import (
	"testing"

	"warrener/api"
	"warrener/code"
	"warrener/mix"
)

// places are numbers of parts: of threads, buffers and what is shared, others, and both ends.
var places = []int{0, 1, 2, 3, 4, 63, 64, 65, 67, 68, 127, 128, 129, 255, 256, -1, -2, -64, -128, 1 << 31, 1 << 32, 1<<32 + 64, -1 << 32, most - 1, most, least, least + 1, least + 64}

// P28.2: Part is the sum of layer 3, of a seed that is the number without a sign.
func TestPart(t *testing.T) {
	texts := [][]byte{nil, {}, {0}, {1}, {255}, {0, 0}, {0, 1}, {1, 0}, make([]byte, 8), make([]byte, 100), octetsOf(numbers...)}
	c := chance(13)
	for range 50 {
		b := make([]byte, c.next(40))
		for i := range b {
			b[i] = byte(c.next(256))
		}
		texts = append(texts, b)
	}
	for _, i := range places {
		for _, b := range texts {
			if got, want := code.Part(i, b), mix.Sum(uint64(i), b); got != want {
				t.Fatalf("Part(%d, %v) = %d, want %d", i, b, got, want)
			}
		}
		for _, n := range numbers {
			if got, want := code.Part(i, octetsOf(n, -n)), sumWants(uint64(i), []int64{n, -n}); got != want {
				t.Fatalf("Part(%d, ..) = %d, want %d", i, got, want)
			}
		}
	}
	if code.Part(0, nil) != 0 {
		t.Fatal("Part(0, nil) is not chapter 3's Mix(0, 0)")
	}
}

// P28.2: Hash by hand: the parts of threads from 0 on, of buffers from 64 on, and what is shared at 128.
func TestHashByHand(t *testing.T) {
	none := api.State{}
	if got, want := code.Hash(none), code.Part(128, code.Shared(none)); got != want {
		t.Fatalf("the empty state: %d, want %d", got, want)
	}
	one := full(1, 1)
	if got, want := code.Hash(one), code.Part(0, code.Thread(one.Threads[0]))^code.Part(64, code.Buffer(one.Buffers[0]))^code.Part(128, code.Shared(one)); got != want {
		t.Fatalf("one thread: %d, want %d", got, want)
	}
	s := full(4, 4)
	want := code.Part(0, code.Thread(s.Threads[0])) ^ code.Part(1, code.Thread(s.Threads[1])) ^ code.Part(2, code.Thread(s.Threads[2])) ^ code.Part(3, code.Thread(s.Threads[3]))
	want ^= code.Part(64, code.Buffer(s.Buffers[0])) ^ code.Part(65, code.Buffer(s.Buffers[1])) ^ code.Part(66, code.Buffer(s.Buffers[2])) ^ code.Part(67, code.Buffer(s.Buffers[3]))
	if got := code.Hash(s); got != want^code.Part(128, code.Shared(s)) {
		t.Fatalf("four threads: %d, want %d", got, want)
	}
	if code.Hash(s) != code.Hash(s) || code.Hash(s) != code.Hash(full(4, 4)) {
		t.Fatal("the same state has two sums")
	}
}

// P28.2: any state, of as many threads and buffers as it likes.
func TestHash(t *testing.T) {
	for _, s := range states(17, 5000) {
		if got, want := code.Hash(s), hashWants(s); got != want {
			t.Fatalf("Hash of %+v: %d, want %d", s, got, want)
		}
	}
	for threads := range 7 {
		for buffers := range 7 {
			if s := full(threads, buffers); code.Hash(s) != hashWants(s) {
				t.Fatalf("Hash of %d threads and %d buffers", threads, buffers)
			}
		}
	}
}

// P28.2: of two threads, or two buffers, that are exchanged, the sum is another, as it is of a thread and a buffer more; of two like ones it is the same.
func TestHashExchanged(t *testing.T) {
	for i := range 4 {
		for j := range i {
			s, other := full(4, 4), full(4, 4)
			other.Threads[i], other.Threads[j] = s.Threads[j], s.Threads[i]
			third := full(4, 4)
			third.Buffers[i], third.Buffers[j] = []api.Entry{{Pc: i}}, []api.Entry{{Pc: j}}
			fourth := full(4, 4)
			fourth.Buffers[i], fourth.Buffers[j] = third.Buffers[j], third.Buffers[i]
			if code.Hash(s) == code.Hash(other) || code.Hash(third) == code.Hash(fourth) {
				t.Fatalf("exchanged, %d and %d have the same sum", i, j)
			}
			s.Threads[i] = s.Threads[j]
			other = s
			other.Threads[i], other.Threads[j] = s.Threads[j], s.Threads[i]
			if code.Hash(s) != code.Hash(other) {
				t.Fatalf("like threads %d and %d, exchanged, have another sum", i, j)
			}
		}
	}
	sums := map[uint64]int{}
	for threads := range 6 {
		for buffers := range 6 {
			s := api.State{Threads: make([]api.Thread, threads), Buffers: make([][]api.Entry, buffers)}
			sums[code.Hash(s)]++
		}
	}
	if len(sums) != 36 {
		t.Fatalf("36 states have %d sums", len(sums))
	}
}

// P28.2: a part that stays the same need not be made anew: with it taken out, and another one put in, it is the other state's sum.
func TestHashByParts(t *testing.T) {
	c := chance(19)
	for range 500 {
		s := full(3, 3)
		sum := code.Hash(s)
		i := c.next(3)
		sum ^= code.Part(i, code.Thread(s.Threads[i])) ^ code.Part(64+i, code.Buffer(s.Buffers[i])) ^ code.Part(128, code.Shared(s))
		s.Threads[i], s.Buffers[i], s.Epoch = c.thread(), c.buffer(), c.number()
		sum ^= code.Part(i, code.Thread(s.Threads[i])) ^ code.Part(64+i, code.Buffer(s.Buffers[i])) ^ code.Part(128, code.Shared(s))
		if sum != code.Hash(s) {
			t.Fatal("the parts together are not the sum")
		}
	}
}

// P28.2: there may be more threads and buffers than numbers below the next parts; numbers go on.
func TestHashMany(t *testing.T) {
	c := chance(23)
	s := c.state()
	for range 200 {
		s.Threads = append(s.Threads, c.thread())
		s.Buffers = append(s.Buffers, c.buffer())
	}
	if got, want := code.Hash(s), hashWants(s); got != want {
		t.Fatalf("many: %d, want %d", got, want)
	}
}
