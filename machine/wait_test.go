package machine_test

import (
	"slices"
	"testing"

	"warrener/api"
)

// holdCan fails if others than these agents can step, or if a step of one that can't changes anything.
func holdCan(b *pair, agents ...int) {
	b.t.Helper()
	if got := b.able(); !slices.Equal(got, agents) {
		b.fail("%v can step, want %v", got, agents)
	}
	for _, a := range slices.Concat([]int{0, 1, 2, 3, 4, 5, 6, 7}, noAgents) {
		if slices.Contains(agents, a) {
			continue
		}
		if keys, ok := b.m.Step(a); ok || len(keys) != 0 {
			b.fail("Step(%d) = %v, %v", a, keys, ok)
		}
		b.hold()
	}
}

// P29.1: under TSO stores wait, each with the life into which it goes, and its place in the code; their own thread reads the last of them, and no other one.
func TestWaits(t *testing.T) {
	roots := []string{"set 1 5; put 0 1; put 1 1; set 1 6; put 0 1; look 2 0; look 3 1", "look 2 0; look 3 1"}
	cells := []string{"new 0; put 0 0; set 1 5; store 0 1 1; load 2 0 1; load 3 0 0; halt", "look 0 0; load 1 0 1; load 2 0 1"}
	holdScripts(t, []script{
		{"put", "2 0 0", "manual tso 1 8 4", roots, []int{0, 0, 0, 0, 0}, "", []string{"buffer 0: 1.0.0=5,0,1 1.1.0=5,0,2 1.0.0=6,0,4", "root 0: 0", "root 1: 0"}},
		{"its own looks", "2 0 0", "manual tso 1 8 4", roots, []int{0, 0, 0, 0, 0, 0, 0}, "", []string{"reg 0 2: 6", "reg 0 3: 5", "root 0: 0"}},
		{"another's looks", "2 0 0", "manual tso 1 8 4", roots, []int{0, 0, 0, 0, 0, 1, 1}, "", []string{"reg 1 2: 0", "reg 1 3: 0"}},
		{"the first goes out first", "2 0 0", "manual tso 1 8 4", roots, []int{0, 0, 0, 0, 0, 2, 1, 1}, "", []string{"reg 1 2: 5", "reg 1 3: 0", "buffer 0: 1.1.0=5,0,2 1.0.0=6,0,4", "root 0: 5"}},
		{"its own look, with some out and some waiting", "2 0 0", "manual tso 1 8 4", roots, []int{0, 0, 0, 0, 0, 2, 2, 0, 0}, "", []string{"reg 0 2: 6", "reg 0 3: 5", "root 0: 5", "root 1: 5"}},
		{"all out", "2 0 0", "manual tso 1 8 4", roots, []int{0, 0, 0, 0, 0, 2, 2, 2, 1, 1, 0, 0}, "", []string{"reg 1 2: 6", "reg 1 3: 5", "reg 0 2: 6", "buffer 0: "}},
		{"store", "1 1 0", "manual tso 1 8 4", cells, []int{0, 0, 2, 0, 0}, "", []string{"buffer 0: 3.1.1=5,1,3", "field 1 1: 0"}},
		{"its own load", "1 1 0", "manual tso 1 8 4", cells, []int{0, 0, 2, 0, 0, 0, 0}, "", []string{"reg 0 2: 5", "reg 0 3: 0", "field 1 1: 0"}},
		{"another's load, ahead and behind", "1 1 0", "manual tso 1 8 4", cells, []int{0, 0, 2, 0, 0, 1, 1, 2, 1}, "", []string{"reg 1 1: 0", "reg 1 2: 5", "field 1 1: 5"}},
		{"guard and clear", "0 0 2", "hazard tso 1 8 4", []string{"set 0 3; guard 0 1; guard 0 0; clear 1", "halt"}, []int{0, 0, 0, 0, 2, 2}, "", []string{"slot 0 0: 3", "slot 0 1: 3", "buffer 0: 5.0.1=0,0,3"}},
		{"leave and quiet", "0 0 0", "quiet tso 1 8 4", []string{"set 0 3; leave; quiet", "halt"}, []int{0, 0, 0}, "", []string{"buffer 0: 7.0.0=0,0,1 8.0.0=1,0,2", "count 0: 0"}},
		{"a life that is another's store", "1 1 0", "manual tso 1 16 4", []string{"new 0; set 1 5; store 0 1 0; free 0; new 2; load 3 2 0; load 3 2 1"}, []int{0, 0, 0, 0, 0, 0}, "", []string{"reg 0 2: 1@2", "reg 0 3: 0", "buffer 0: 3.1.0=5,1,2", "field 1 0: 0"}},
	})
}

// P29.1: a buffer's step into a life that is over tells Uaf of the store's thread and place, once for each such store, and stores nothing; the thread is not trapped by it.
func TestTooLate(t *testing.T) {
	late := []string{"new 0; put 0 0; set 1 5; store 0 1 1; store 0 1 0; look 3 1; halt", "look 0 0; free 0; new 1; put 1 1; halt"}
	holdScripts(t, []script{
		{"in this life", "2 1 0", "manual tso 1 16 4", late, []int{0, 0, 2, 0, 0, 0, 2, 2}, "", []string{"field 1 1: 5", "field 1 0: 5", "buffer 0: "}},
		{"in one that has gone", "2 1 0", "manual tso 1 16 4", late, []int{0, 0, 2, 0, 0, 0, 1, 1, 2, 2}, "8: uaf 0 3; 9: uaf 0 4", []string{"field 1 1: 0", "field 1 0: 0", "cell 1: free 1 0 0", "buffer 0: ", "status 0: running"}},
		{"the thread goes on", "2 1 0", "manual tso 1 16 4", late, []int{0, 0, 2, 0, 0, 0, 1, 1, 2, 0, 2, 0}, "8: uaf 0 3; 10: uaf 0 4", []string{"status 0: halted", "pc 0: 7"}},
		{"in an earlier one", "2 1 0", "manual tso 1 16 4", late, []int{0, 0, 2, 0, 0, 0, 1, 1, 1, 2}, "9: uaf 0 3", []string{"cell 1: live 2 1 2", "field 1 1: 0", "buffer 0: 3.1.0=5,1,4"}},
		{"one in time, and one too late", "2 1 0", "manual tso 1 16 4", late, []int{0, 0, 2, 0, 0, 0, 2, 1, 1, 1, 2}, "10: uaf 0 4", []string{"field 1 1: 0", "field 1 0: 0"}},
		{"into a retired cell", "1 1 0", "manual tso 1 16 4", []string{"new 0; set 1 5; store 0 1 1; retire 0; halt"}, []int{0, 0, 0, 0, 1}, "", []string{"cell 1: retired 1 0 0", "field 1 1: 5"}},
		{"too late, of a thread that is done, behind which it is over", "1 2 0", "manual tso 1 16 4", []string{"new 1; new 0; store 0 1 1; free 0"}, []int{0, 0, 0, 0, 1}, "4: uaf 0 2, leak 0 0", []string{"field 2 1: 0"}},
		{"a thread that is trapped, whose stores go out", "1 0 0", "manual tso 1 16 4", []string{"set 1 5; put 0 1; free 1"}, []int{0, 0, 0, 1}, "2: wild 0 2", []string{"root 0: 5", "status 0: trapped"}},
	})
}

// P29.1: what needs room waits while the buffer is full, and what needs an empty one while something waits; all else goes on. What a thread touches next is told all the same.
func TestHindered(t *testing.T) {
	full := []string{"put 0 0", "store 3 0 0", "guard 0 0", "clear 0", "leave", "quiet"}
	drained := []string{"swap 0 0 0 0", "cas 3 0 0 0", "fence"}
	others := []string{"halt", "set 0 1", "copy 0 1", "add 0 0 0", "div 0 0 0", "jump 0", "zero 0 0", "same 0 0 0", "look 0 0", "load 0 3 0", "new 0", "free 3", "retire 3", "enter", "free 0", "load 0 0 0", "retire 0"}
	for _, depth := range []string{"1", "2", "3", "4"} {
		for _, x := range slices.Concat(full, drained, others) {
			for waiting := range 5 {
				most := int(depth[0] - '0')
				if waiting > most {
					continue
				}
				ahead := "new 3; " + []string{"", "put 0 1; ", "put 0 1; put 0 1; ", "put 0 1; put 0 1; put 0 1; ", "put 0 1; put 0 1; put 0 1; put 0 1; "}[waiting]
				b := newPair(t, program(t, "1 1 1", ahead+x, "jump 0"), config(t, "manual tso 1 16 "+depth))
				b.run(make([]int, waiting+1)...)
				can := []int{0, 1}
				if slices.Contains(full, x) && waiting == most || slices.Contains(drained, x) && waiting > 0 {
					can = []int{1}
				}
				if waiting > 0 {
					can = append(can, 2)
				}
				holdCan(b, can...)
				if _, ok := b.m.Foot(0); !ok {
					b.fail("Foot(0) tells none")
				}
				undoAll(b)
			}
		}
	}
}

// P29.1: under SC nothing waits, and nothing is hindered; there are no agents but threads.
func TestAtOnce(t *testing.T) {
	b := newPair(t, program(t, "1 1 1", "new 3; put 0 3; put 0 1; fence; put 0 1; swap 0 0 0 0; store 3 3 0; cas 3 3 0 0; quiet; leave; clear 0", "put 0 0"), config(t, "manual sc 1 16 1"))
	for i := range 11 {
		holdCan(b, 0, 1)
		b.step(0)
		if got := len(b.m.State().Buffers[0]); got != 0 || b.m.Agents() != 2 {
			t.Fatalf("behind %d steps %d stores wait, and there are %d agents", i+1, got, b.m.Agents())
		}
	}
	holdCan(b, 1)
	undoAll(b)
}

// P29.1: it is over when all threads are done, and all buffers are empty; the step behind which it is tells what leaks, from all roots, and no other step does.
func TestOver(t *testing.T) {
	holdScripts(t, []script{
		{"a leak", "0 1 0", "manual sc 1 8 1", []string{"new 0"}, []int{0}, "0: leak 0 0", []string{"cell 1: live 1 0 0"}},
		{"in a root", "1 1 0", "manual sc 1 8 1", []string{"new 0; put 0 0"}, []int{0, 0}, "", nil},
		{"in the last root", "4 1 0", "manual sc 1 8 1", []string{"new 0; put 3 0"}, []int{0, 0}, "", nil},
		{"in a slot alone", "1 1 1", "hazard sc 1 8 1", []string{"new 0; guard 0 0"}, []int{0, 0}, "1: leak 0 0", nil},
		{"in a field of a cell in a root", "1 2 0", "manual sc 1 8 1", []string{"new 0; new 1; store 0 1 1; put 0 0"}, []int{0, 0, 0, 0}, "", nil},
		{"retired", "1 1 0", "manual sc 1 8 1", []string{"new 0; retire 0"}, []int{0, 0}, "", nil},
		{"by another thread's last step", "1 2 0", "manual sc 1 8 1", []string{"set 1 1; new 0", "new 0; set 1 1"}, []int{1, 0, 0, 1}, "3: leak 0 1, leak 1 0", nil},
		{"of one instruction twice", "0 2 0", "manual sc 1 4 1", []string{"new 0; jump 0"}, []int{0, 0, 0, 0}, "3: leak 0 0", nil},
		{"in order", "0 4 0", "manual sc 1 8 1", []string{"new 0; new 0", "new 0; new 0"}, []int{1, 0, 1, 0}, "3: leak 0 0, leak 0 1, leak 1 0, leak 1 1", nil},
		{"by a halt", "0 1 0", "manual sc 1 8 1", []string{"new 0; halt; free 0"}, []int{0, 0}, "1: leak 0 0", nil},
		{"by a trap", "0 1 0", "manual sc 1 8 1", []string{"new 0; free 1; free 0"}, []int{0, 0}, "1: wild 0 1, leak 0 0", nil},
		{"by a micro", "0 2 0", "hazard sc 1 8 1", []string{"new 0; new 1; retire 1"}, []int{0, 0, 0, 0}, "3: leak 0 0", []string{"free: 2"}},
		{"by a buffer", "1 1 0", "manual tso 1 8 1", []string{"put 0 0; new 0"}, []int{0, 0, 1}, "2: leak 0 1", nil},
		{"by the last buffer", "1 1 0", "manual tso 1 8 1", []string{"new 0; put 0 1", "put 0 0"}, []int{0, 0, 1, 2, 3}, "4: leak 0 0", nil},
		{"by a buffer that loses it", "1 1 0", "manual tso 1 8 2", []string{"new 0; put 0 0; put 0 1"}, []int{0, 0, 0, 1, 1}, "4: leak 0 0", []string{"root 0: 0"}},
		{"not by one that keeps it", "1 1 0", "manual tso 1 8 2", []string{"new 0; put 0 0"}, []int{0, 0, 1}, "", []string{"root 0: 1@1"}},
	})
}

// P29.1: a thread without an instruction, or without fuel, is done at the beginning; such a machine is over with no step, and tells no leak.
func TestOverAtOnce(t *testing.T) {
	for _, order := range []string{"sc", "tso"} {
		for _, x := range []struct{ fuel, code string }{{"8", ""}, {"0", "new 0"}, {"0", ""}} {
			b := newPair(t, program(t, "1 1 0", x.code, x.code), config(t, "manual "+order+" 1 "+x.fuel+" 1"))
			if !b.m.Over() {
				b.fail("it is not over")
			}
			holdCan(b)
		}
		b := newPair(t, program(t, "1 1 0", "", "set 0 1"), config(t, "manual "+order+" 1 8 1"))
		if b.m.Over() {
			b.fail("it is over")
		}
		holdCan(b, 1)
		b.run(1)
		if !b.m.Over() {
			b.fail("it is not over")
		}
		holdCan(b)
		if f, ok := b.m.Foot(0); ok || !sameFoot(f, api.Foot{}) {
			t.Fatalf("Foot(0) = %v, %v", f, ok)
		}
	}
}
