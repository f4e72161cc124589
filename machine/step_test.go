package machine_test

import (
	"strconv"
	"strings"
	"testing"
)

// script is a program, how it is run, what is picked, and what comes of it: what the picks tell, each that tells something with its place in the row, and what is so behind the last one.
type script struct {
	name, much, config string
	threads            []string
	picks              []int
	told               string
	facts              []string
}

// holdScripts does each script, held against a plain step on the way.
func holdScripts(t *testing.T, l []script) {
	for _, x := range l {
		t.Run(x.name, func(t *testing.T) {
			b := newPair(t, program(t, x.much, x.threads...), config(t, x.config))
			var told []string
			for i, keys := range b.run(x.picks...) {
				if keys != "" {
					told = append(told, strconv.Itoa(i)+": "+keys)
				}
			}
			if got := strings.Join(told, "; "); got != x.told {
				t.Fatalf("told %q, want %q", got, x.told)
			}
			b.holdFacts(x.facts...)
			undoAll(b)
		})
	}
}

// undoAll goes back to the beginning, step by step.
func undoAll(b *pair) {
	b.t.Helper()
	for b.undo() {
	}
	if b.m.Steps() != 0 {
		b.fail("Steps() = %d at the beginning", b.m.Steps())
	}
}

// The chapter's example.
func TestExample(t *testing.T) {
	holdScripts(t, []script{{
		name: "new, free, free", much: "0 1 0", config: "manual sc 1 8 1",
		threads: []string{"new 0; free 0; free 0"},
		picks:   []int{0, 0, 0},
		told:    "2: doublefree 0 2",
		facts:   []string{"status 0: trapped", "pc 0: 3", "fuel 0: 5", "reg 0 0: 1@1", "cell 1: free 1 0 0", "free: 1"},
	}})
}

// P29.1: instructions that touch nothing that is shared, and fence.
func TestLocal(t *testing.T) {
	holdScripts(t, []script{
		{"halt", "0 0 0", "manual sc 1 8 1", []string{"halt; set 0 1"}, []int{0}, "", []string{"status 0: halted", "pc 0: 1", "fuel 0: 7"}},
		{"set and copy", "0 0 0", "manual sc 1 8 1", []string{"set 0 5; copy 1 0"}, []int{0, 0}, "", []string{"reg 0 0: 5", "reg 0 1: 5", "status 0: running", "pc 0: 2", "fuel 0: 6"}},
		{"reckoning", "0 0 0", "manual sc 1 8 1", []string{"set 0 7; set 1 2; add 2 0 1; sub 3 0 1; mul 0 0 1; div 1 0 3"}, []int{0, 0, 0, 0, 0, 0}, "", []string{"reg 0 2: 9", "reg 0 3: 5", "reg 0 0: 14", "reg 0 1: 2"}},
		{"div by 0", "0 0 0", "manual sc 1 8 1", []string{"set 0 7; div 0 0 1", "set 0 3"}, []int{0, 0, 1}, "", []string{"reg 0 0: 7", "status 0: halted", "pc 0: 2", "reg 1 0: 3", "status 1: running"}},
		{"a pointer, reckoned with", "0 1 0", "manual sc 1 8 1", []string{"new 0; add 1 0 0; free 1"}, []int{0, 0, 0}, "2: wild 0 2, leak 0 0", []string{"reg 0 1: 2", "cell 1: live 1 0 0", "status 0: trapped"}},
		{"jump", "0 0 0", "manual sc 1 8 1", []string{"jump 2; set 0 1; set 1 2"}, []int{0, 0}, "", []string{"reg 0 0: 0", "reg 0 1: 2", "pc 0: 3", "fuel 0: 6"}},
		{"zero", "0 0 0", "manual sc 1 8 1", []string{"zero 0 2; halt; set 0 1; zero 0 0"}, []int{0, 0, 0}, "", []string{"pc 0: 4", "reg 0 0: 1", "status 0: running"}},
		{"same", "0 0 0", "manual sc 1 8 1", []string{"same 0 1 2; halt; set 0 1; same 0 1 0"}, []int{0, 0, 0}, "", []string{"pc 0: 4", "reg 0 0: 1", "status 0: running"}},
		{"same, of a pointer and its number", "0 1 0", "manual sc 1 8 1", []string{"new 0; set 1 1; same 0 1 4; halt; halt"}, []int{0, 0, 0}, "", []string{"pc 0: 4"}},
		{"a ring, till the fuel is gone", "0 0 0", "manual sc 1 3 1", []string{"jump 0"}, []int{0, 0, 0}, "", []string{"pc 0: 0", "fuel 0: 0", "status 0: running"}},
		{"fence", "1 0 0", "manual sc 1 8 1", []string{"put 0 0; fence; set 0 4"}, []int{0, 0, 0}, "", []string{"pc 0: 3", "fuel 0: 5", "reg 0 0: 4"}},
	})
}

// P29.1: roots.
func TestRoots(t *testing.T) {
	holdScripts(t, []script{
		{"put and look", "2 0 0", "manual sc 1 8 1", []string{"set 1 5; put 1 1", "look 2 1; look 3 0"}, []int{0, 0, 1, 1}, "", []string{"root 0: 0", "root 1: 5", "reg 1 2: 5", "reg 1 3: 0", "buffer 0: "}},
		{"look ahead of put", "2 0 0", "manual sc 1 8 1", []string{"set 1 5; put 1 1", "look 2 1"}, []int{0, 1, 0}, "", []string{"root 1: 5", "reg 1 2: 0"}},
		{"swap of what is alike", "2 0 0", "manual sc 1 8 1", []string{"set 1 5; set 2 6; put 1 1; swap 0 1 2 1"}, []int{0, 0, 0, 0}, "", []string{"root 1: 6", "root 0: 0", "reg 0 0: 1", "reg 0 1: 5", "reg 0 2: 6"}},
		{"swap of what is another", "2 0 0", "manual sc 1 8 1", []string{"set 0 9; set 1 5; set 2 6; swap 0 1 2 1"}, []int{0, 0, 0, 0}, "", []string{"root 1: 0", "reg 0 0: 0", "reg 0 1: 5"}},
		{"swap of a pointer", "1 1 0", "manual sc 1 8 1", []string{"new 1; put 0 1; set 2 6; swap 0 1 2 0"}, []int{0, 0, 0, 0}, "3: leak 0 0", []string{"root 0: 6", "reg 0 0: 1", "reg 0 1: 1@1"}},
		{"swap for a pointer", "1 1 0", "manual sc 1 8 1", []string{"new 1; swap 0 2 1 0"}, []int{0, 0}, "", []string{"root 0: 1@1", "reg 0 0: 1"}},
		{"swap of a number, where a pointer stands", "1 1 0", "manual sc 1 8 1", []string{"new 1; put 0 1; set 2 1; swap 0 2 3 0; halt"}, []int{0, 0, 0, 0}, "3: aba 0 3", []string{"root 0: 1@1", "reg 0 0: 0", "reg 0 2: 1", "status 0: trapped", "pc 0: 4", "fuel 0: 4"}},
		{"swap of an earlier life", "1 1 0", "manual sc 1 8 1", []string{"new 1; free 1; new 2; put 0 2; swap 1 1 3 0"}, []int{0, 0, 0, 0, 0}, "4: aba 0 4", []string{"root 0: 1@2", "reg 0 1: 1@1", "status 0: trapped"}},
		{"swap of another cell", "1 2 0", "manual sc 1 8 1", []string{"new 1; new 2; put 0 2; swap 0 1 2 0"}, []int{0, 0, 0, 0}, "3: leak 0 0", []string{"root 0: 2@1", "reg 0 0: 0", "status 0: running"}},
		{"swap with the register that is wanted", "1 0 0", "manual sc 1 8 1", []string{"swap 1 1 1 0"}, []int{0}, "", []string{"root 0: 0", "reg 0 1: 1"}},
	})
}

// P29.1: new, with a cell that is free and with none, and load, store and cas through pointers into lives that are not over.
func TestCells(t *testing.T) {
	holdScripts(t, []script{
		{"new", "0 2 0", "manual sc 1 8 1", []string{"halt", "set 0 3; new 1; new 0; new 1"}, []int{1, 1, 1, 1}, "", []string{"reg 1 0: 2@1", "reg 1 1: 0", "cell 1: live 1 1 1", "cell 2: live 1 1 2", "free: ", "status 1: running"}},
		{"new of a free one", "0 2 0", "manual sc 1 8 1", []string{"new 0; new 1; free 0; new 2", "halt"}, []int{0, 0, 0, 0}, "", []string{"reg 0 2: 1@2", "cell 1: live 2 0 3", "cell 2: live 1 0 1"}},
		{"new of no cells", "0 0 0", "manual sc 1 8 1", []string{"set 0 7; new 0"}, []int{0, 0}, "", []string{"reg 0 0: 0", "status 0: running"}},
		{"store and load", "0 2 0", "manual sc 1 8 1", []string{"new 0; new 1; set 2 7; store 1 2 1; store 0 1 0; load 3 0 0; load 2 3 1; load 3 3 0"}, []int{0, 0, 0, 0, 0, 0, 0, 0}, "7: leak 0 0, leak 0 1", []string{"field 2 1: 7", "field 2 0: 0", "field 1 0: 2@1", "field 1 1: 0", "reg 0 2: 7", "reg 0 3: 0"}},
		{"cas of what is alike", "0 1 0", "manual sc 1 8 1", []string{"new 0; set 1 4; copy 3 0; cas 0 2 1 1; halt"}, []int{0, 0, 0, 0}, "", []string{"field 1 1: 4", "field 1 0: 0", "reg 0 0: 1", "reg 0 3: 1@1"}},
		{"cas of what is another", "0 1 0", "manual sc 1 8 1", []string{"new 0; set 1 4; cas 0 1 1 0; halt"}, []int{0, 0, 0}, "", []string{"field 1 0: 0", "reg 0 0: 0", "reg 0 1: 4", "status 0: running"}},
		{"cas of a number, where a pointer stands", "0 1 0", "manual sc 1 8 1", []string{"new 0; store 0 0 1; set 1 1; cas 0 1 2 1; halt"}, []int{0, 0, 0, 0}, "3: aba 0 3, leak 0 0", []string{"field 1 1: 1@1", "reg 0 0: 1@1", "status 0: trapped", "pc 0: 4"}},
		{"cas through a pointer whose life is over, where another word of that number stands", "0 1 0", "manual sc 1 8 1", []string{"new 0; free 0; new 1; store 1 1 0; set 2 1; cas 0 2 3 0"}, []int{0, 0, 0, 0, 0, 0}, "5: uaf 0 5, leak 0 2", []string{"field 1 0: 1@2", "reg 0 0: 1@1", "status 0: trapped"}},
		{"through pointers to a retired cell", "0 1 0", "manual sc 1 8 1", []string{"new 0; retire 0; store 0 0 1; load 1 0 1; cas 0 1 2 1; halt"}, []int{0, 0, 0, 0, 0}, "", []string{"cell 1: retired 1 0 0", "field 1 1: 0", "reg 0 1: 1@1", "reg 0 0: 1", "bag 0: 1@1:0", "micro 0: none 0 0"}},
	})
}

// P29.1: what is wrong with a pointer is told once, with its thread and its place; the thread is trapped, and nothing else happens. Instructions that go through no pointer ask none.
func TestWrong(t *testing.T) {
	ways := []struct{ name, ahead string }{
		{"a plain word", "set 0 1"},
		{"a free cell", "new 0; free 0"},
		{"another life", "new 0; free 0; new 3"},
		{"a retired cell", "new 0; retire 0"},
	}
	fine := [4]string{}
	var l []script
	for _, x := range []struct {
		last  string
		kinds [4]string
	}{
		{"load 1 0 1", [4]string{"wild", "uaf", "uaf"}}, {"load 0 0 0", [4]string{"wild", "uaf", "uaf"}},
		{"store 0 2 1", [4]string{"wild", "uaf", "uaf"}}, {"store 0 0 0", [4]string{"wild", "uaf", "uaf"}},
		{"cas 0 2 2 1", [4]string{"wild", "uaf", "uaf"}}, {"cas 0 0 0 0", [4]string{"wild", "uaf", "uaf"}}, {"cas 0 1 1 1", [4]string{"wild", "uaf", "uaf"}},
		{"free 0", [4]string{"wild", "doublefree", "doublefree", "doublefree"}},
		{"retire 0", [4]string{"wild", "uaf", "uaf", "doubleretire"}},
		{"load 0 2 0", [4]string{"wild", "wild", "wild", "wild"}}, {"store 2 0 0", [4]string{"wild", "wild", "wild", "wild"}}, {"cas 2 0 0 0", [4]string{"wild", "wild", "wild", "wild"}},
		{"free 2", [4]string{"wild", "wild", "wild", "wild"}}, {"retire 2", [4]string{"wild", "wild", "wild", "wild"}},
		{"set 0 1", fine}, {"copy 0 0", fine}, {"add 0 0 0", fine}, {"div 0 0 0", fine}, {"jump 0", fine}, {"zero 0 0", fine}, {"same 0 0 0", fine}, {"halt", fine}, {"fence", fine},
		{"look 0 0", fine}, {"put 0 0", fine}, {"swap 1 2 2 0", fine}, {"swap 0 0 0 0", fine}, {"new 0", fine}, {"guard 0 0", fine}, {"clear 0", fine}, {"enter", fine}, {"leave", fine}, {"quiet", fine},
	} {
		for i, way := range ways {
			for _, order := range []string{"sc", "tso"} {
				ahead := strings.Count(way.ahead, ";") + 1
				y := script{name: order + ", " + way.name + ", " + x.last, much: "1 1 1", config: "manual " + order + " 1 8 2", threads: []string{way.ahead + "; " + x.last + "; halt", "jump 0"}, picks: make([]int, ahead+1)}
				if x.kinds[i] != "" {
					y.told = strconv.Itoa(ahead) + ": " + x.kinds[i] + " 0 " + strconv.Itoa(ahead)
					y.facts = []string{"status 0: trapped", "pc 0: " + strconv.Itoa(ahead+1), "fuel 0: " + strconv.Itoa(7-ahead), "buffer 0: ", "root 0: 0", "micro 0: none 0 0"}
				}
				l = append(l, y)
			}
		}
	}
	holdScripts(t, l)
}
