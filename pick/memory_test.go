package pick_test

import (
	"bytes"
	"slices"
	"sync"
	"testing"
	"unsafe"

	"warrener/api"
	"warrener/machine"
	"warrener/pick"
)

// roomy is a list of so many picks within a longer one, which is as made as long as nobody turned it.
type roomy struct {
	room []int
	l    []int
}

func newRoomy(length int) roomy {
	room := make([]int, length+8)
	for i := range room {
		room[i] = i * 3 % 8
	}
	return roomy{room, room[2 : 2+length]}
}

func (r roomy) asMade() bool {
	return slices.Equal(r.room, newRoomy(len(r.l)).room)
}

// spoil writes over a list, to its room's end.
func spoil[T any](l []T, with T) {
	l = l[:cap(l)]
	for i := range l {
		l[i] = with
	}
}

// turns are the calls that turn a list into another one.
func turns() []func(l []int) []int {
	var calls []func(l []int) []int
	for _, i := range []int{least, -1, 0, 1, 2, 3, 7, most} {
		calls = append(calls, func(l []int) []int { return pick.Swap(l, i) })
		for _, n := range []int{least, -1, 0, 1, 2, 3, 7, most} {
			calls = append(calls, func(l []int) []int { return pick.Without(l, i, n) })
		}
	}
	return calls
}

// P2: a list that comes in stays as it was, behind its end, too, whatever becomes of the answer.
func TestListStays(t *testing.T) {
	for length := range 8 {
		for which, turn := range turns() {
			r := newRoomy(length)
			out := turn(r.l)
			if !r.asMade() {
				t.Fatalf("call %d turned the list of %d that came in", which, length)
			}
			spoil(append(out, -9, -9, -9), -55)
			spoil(out, -55)
			if !r.asMade() {
				t.Fatalf("call %d: the answer shares memory with the list of %d that came in", which, length)
			}
		}
	}
}

// P2: what becomes of a list that came in does not change the answer, nor does what becomes of another answer.
func TestAnswerStays(t *testing.T) {
	for length := range 8 {
		for which, turn := range turns() {
			r := newRoomy(length)
			out, other := turn(r.l), turn(r.l)
			want := slices.Clone(out)
			spoil(append(other, -9), -55)
			spoil(other, -55)
			spoil(r.room, -56)
			if !slices.Equal(out, want) {
				t.Fatalf("call %d: the answer shares memory: %v was %v", which, out, want)
			}
		}
	}
}

// P2: Switches and Put turn no list, and what becomes of Put's octets reaches no other ones.
func TestPutApart(t *testing.T) {
	for _, length := range []int{0, 1, 2, 7, 100, 4096, 4097} {
		r := newRoomy(length)
		pick.Switches(r.l)
		b, _ := pick.Put(r.l)
		other, _ := pick.Put(r.l)
		want := slices.Clone(b)
		spoil(other, 99)
		if !r.asMade() || !bytes.Equal(b, want) {
			t.Fatalf("%d picks: Put turned them, or shares memory", length)
		}
		spoil(r.room, 5)
		if again, _ := pick.Put(newRoomy(length).l); !bytes.Equal(b, want) || !bytes.Equal(again, want) {
			t.Fatalf("%d picks: Put keeps what came in, or what it answered", length)
		}
	}
}

// P2: Get turns no octets, also behind their end, and keeps none; what becomes of its picks reaches no other ones.
func TestGetApart(t *testing.T) {
	for _, l := range schedules() {
		room := append(octets(l), 1, 2, 3, 4)
		was := slices.Clone(room)
		for _, b := range [][]byte{room[:2+len(l)], room, room[:1], room[:len(room)/2]} {
			first, _, _ := pick.Get(b)
			second, _, _ := pick.Get(b)
			want := slices.Clone(first)
			spoil(second, 99)
			spoil(append(second, 99), 98)
			if !bytes.Equal(room, was) || !slices.Equal(first, want) {
				t.Fatalf("%d picks: Get turned the octets, or shares memory", len(l))
			}
		}
		first, _, _ := pick.Get(room)
		spoil(room, 77)
		if !slices.Equal(first, l) {
			t.Fatalf("%d picks: Get keeps the octets", len(l))
		}
	}
}

// P2: Agent keeps and turns no text; each name is told in memory of its own.
func TestNamesApart(t *testing.T) {
	given := []byte("t0")
	s := unsafe.String(&given[0], len(given))
	if a, ok := pick.Agent(s, 2); a != 0 || !ok || string(given) != "t0" {
		t.Fatalf("Agent turned its text: %q", given)
	}
	copy(given, "f1")
	holdAgent(t, "t0", 2, 0, true)
	holdAgent(t, s, 2, 3, true)
	var told []string
	for threads := range 5 {
		for a := range 2 * threads {
			told = append(told, pick.Name(a, threads), pick.Name(a, threads))
		}
	}
	for i, one := range told {
		for _, other := range told[:i] {
			if unsafe.StringData(one) == unsafe.StringData(other) {
				t.Fatalf("two names, %q and %q, share memory", one, other)
			}
		}
	}
}

// answers are all answers of one round of calls.
type answers struct {
	name     string
	agent    int
	is       bool
	switches int
	turned   []int
	octets   []byte
	put      api.Errno
	got      got
}

// round is a round of calls, by a row of numbers.
func round(c *chance) answers {
	l := c.picks(c.next(20), 9)
	b := append(octets(l), 1, 2)[:c.next(len(l)+4)]
	var x answers
	x.name = pick.Name(c.number(8), c.next(7)-1)
	x.agent, x.is = pick.Agent(names[4][c.next(8)], c.next(7)-1)
	x.switches = pick.Switches(l)
	x.turned = pick.Swap(pick.Without(l, c.number(len(l)), c.number(len(l))), c.number(len(l)))
	x.octets, x.put = pick.Put(l)
	x.got.l, x.got.at, x.got.err = pick.Get(b)
	return x
}

// same tells whether both are alike.
func same(x answers, y answers) bool {
	return x.name == y.name && x.agent == y.agent && x.is == y.is && x.switches == y.switches && slices.Equal(x.turned, y.turned) &&
		bytes.Equal(x.octets, y.octets) && x.put == y.put && slices.Equal(x.got.l, y.got.l) && x.got.at == y.got.at && x.got.err == y.got.err
}

// P3: what is answered hangs on the arguments alone: the same again, behind other calls, and beside other callers.
func TestAgain(t *testing.T) {
	var want []answers
	for i := range 500 {
		c := chance(i)
		want = append(want, round(&c))
	}
	var wait sync.WaitGroup
	for worker := range 4 {
		wait.Go(func() {
			for k := range want {
				i := (k*7 + worker*131) % len(want)
				c := chance(i)
				if x := round(&c); !same(x, want[i]) {
					t.Errorf("round %d answers %+v, not %+v", i, x, want[i])
				}
			}
		})
	}
	wait.Wait()
}

// P30.1: the agents of a machine have names, and under TSO these are all there are.
func TestNamesOfMachines(t *testing.T) {
	for threads := 1; threads <= api.MaxThreads; threads++ {
		for _, order := range []int{api.SC, api.TSO} {
			m, err := machine.New(api.Prog{Code: make([][]api.Instr, threads)}, api.Config{Order: order, Threshold: 1, Depth: 1})
			if err != api.OK {
				t.Fatal(err)
			}
			for a := range m.Agents() {
				holdAgent(t, pick.Name(a, threads), threads, a, true)
			}
			if order == api.TSO {
				holdName(t, m.Agents(), threads, "")
			} else {
				holdName(t, m.Agents(), threads, "f0")
			}
		}
	}
}
