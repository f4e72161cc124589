package machine_test

import (
	"testing"

	"warrener/api"
)

// P29.1: retire, by each scheme: what comes of the cell, of the bag, and what is done next.
func TestRetire(t *testing.T) {
	holdScripts(t, []script{
		{"manual", "0 1 1", "manual sc 1 8 1", []string{"new 0; retire 0", "halt"}, []int{0, 0}, "", []string{"cell 1: retired 1 0 0", "bag 0: 1@1:0", "micro 0: none 0 0", "pc 0: 2", "fuel 0: 6", "free: "}},
		{"hazard, too few", "0 1 1", "hazard sc 2 8 1", []string{"new 0; retire 0", "halt"}, []int{0, 0}, "", []string{"cell 1: retired 1 0 0", "bag 0: 1@1:0", "micro 0: none 0 0"}},
		{"hazard, enough", "0 1 1", "hazard sc 1 8 1", []string{"new 0; retire 0", "halt"}, []int{0, 0}, "", []string{"bag 0: 1@1:0", "micro 0: guards 0 0", "seen 0: "}},
		{"hazard, no slots", "0 1 0", "hazard sc 1 8 1", []string{"new 0; retire 0", "halt"}, []int{0, 0}, "", []string{"bag 0: 1@1:0", "micro 0: release 0 0"}},
		{"epoch", "0 1 1", "epoch sc 2 8 1", []string{"new 0; retire 0", "halt"}, []int{0, 0}, "", []string{"bag 0: 1@1:0", "micro 0: date 0 0"}},
		{"quiet, too few", "0 1 1", "quiet sc 2 8 1", []string{"new 0; retire 0", "halt"}, []int{0, 0}, "", []string{"bag 0: 1@1:0", "micro 0: none 0 0"}},
		{"quiet, enough", "0 1 1", "quiet sc 1 8 1", []string{"new 0; retire 0", "halt"}, []int{0, 0}, "", []string{"bag 0: 1@1:0", "micro 0: snapshot 0 0"}},
		{"the last comes last", "0 3 0", "manual sc 1 8 1", []string{"new 0; new 1; free 0; new 0; retire 1; retire 0; halt"}, []int{0, 0, 0, 0, 0, 0}, "", []string{"bag 0: 2@1:0 1@2:0"}},
		{"with the last of its fuel", "0 1 1", "hazard sc 1 2 1", []string{"new 0; retire 0", "halt"}, []int{0, 0, 0, 0, 0, 1}, "", []string{"free: 1", "fuel 0: 0"}},
		{"of what another one took", "1 1 0", "manual sc 1 8 1", []string{"new 0; put 0 0", "look 1 0; retire 1; halt"}, []int{0, 0, 1, 1}, "", []string{"cell 1: retired 1 0 0", "bag 0: ", "bag 1: 1@1:0"}},
	})
}

// P29.1: guards are seen one by one, and what they protect stays. Between any two looks another thread may come.
func TestHazard(t *testing.T) {
	threads := []string{"new 0; put 0 0; put 0 3; retire 0; new 1; retire 1", "look 1 0; guard 1 0; clear 0; guard 1 1; guard 1 0"}
	holdScripts(t, []script{
		{"the chapter of schemes' example", "0 1 1", "hazard sc 1 8 1", []string{"new 0; retire 0", "halt"}, []int{0, 0, 0, 0, 0}, "", []string{"cell 1: free 1 0 0", "free: 1", "bag 0: ", "micro 0: none 0 0", "seen 0: "}},
		{"behind one look", "0 1 1", "hazard sc 1 8 1", []string{"new 0; retire 0", "halt"}, []int{0, 0, 0}, "", []string{"cell 1: retired 1 0 0", "micro 0: guards 1 0", "seen 0: 0"}},
		{"behind both", "0 1 1", "hazard sc 1 8 1", []string{"new 0; retire 0", "halt"}, []int{0, 0, 0, 0}, "", []string{"cell 1: retired 1 0 0", "micro 0: release 0 0", "seen 0: 0 0"}},
		{"guarded", "1 2 2", "hazard sc 1 8 1", threads, []int{0, 0, 1, 1, 0, 0, 0, 0, 0, 0, 0}, "", []string{"slot 1 0: 1@1", "cell 1: retired 1 0 0", "bag 0: 1@1:0", "micro 0: none 0 0", "pc 0: 4"}},
		{"what was seen", "1 2 2", "hazard sc 1 8 1", threads, []int{0, 0, 1, 1, 0, 0, 0, 0, 0, 0}, "", []string{"seen 0: 0 0 1 0", "micro 0: release 0 0"}},
		{"guarded behind the look", "1 2 2", "hazard sc 1 8 1", threads, []int{0, 0, 1, 0, 0, 0, 0, 0, 1, 0, 0}, "", []string{"slot 1 0: 1@1", "cell 1: free 1 0 0", "bag 0: "}},
		{"guarded by the other slot, from one to the other", "1 2 2", "hazard sc 1 8 1", threads, []int{0, 0, 1, 1, 1, 0, 0, 0, 0, 1, 0, 0, 0}, "", []string{"slot 1 0: 0", "slot 1 1: 1@1", "cell 1: retired 1 0 0", "bag 0: 1@1:0"}},
		{"from the one to the other behind the look", "1 2 2", "hazard sc 1 8 1", threads, []int{0, 0, 1, 1, 1, 0, 0, 0, 0, 0, 0, 1, 0}, "", []string{"slot 1 1: 1@1", "cell 1: free 1 0 0"}},
		{"some go, and some stay", "1 2 2", "hazard sc 1 8 1", threads, []int{0, 0, 1, 1, 0, 0, 0, 0, 0, 0, 0, 0, 0, 0, 0, 0, 0, 0}, "", []string{"cell 1: retired 1 0 0", "cell 2: free 1 0 0", "free: 2", "bag 0: 1@1:0"}},
		{"several go, in order", "1 3 1", "hazard sc 3 8 1", []string{"new 0; new 1; new 2; retire 1; retire 2; retire 0"}, []int{0, 0, 0, 0, 0, 0, 0, 0}, "", []string{"free: 1 3 2", "bag 0: ", "cell 3: free 1 0 0"}},
	})
}

// P29.1: epochs: marks, the date of what is retired, marks that agree and that do not, the epoch made one more and not, and what goes two epochs later.
func TestEpoch(t *testing.T) {
	one := []string{"new 0; new 1; retire 0; retire 1; halt"}
	two := []string{"new 0; retire 0; new 0; retire 0", "enter; leave; new 0; retire 0"}
	holdScripts(t, []script{
		{"enter", "0 0 0", "epoch sc 1 8 1", []string{"enter; leave"}, []int{0}, "", []string{"micro 0: enter 0 0", "mark 0: 0", "pc 0: 1"}},
		{"its mark", "0 0 0", "epoch sc 1 8 1", []string{"enter; leave"}, []int{0, 0}, "", []string{"micro 0: none 0 0", "mark 0: 1", "pc 0: 1"}},
		{"leave", "0 0 0", "manual sc 1 8 1", []string{"enter; leave"}, []int{0, 0, 0}, "", []string{"mark 0: 0", "pc 0: 2"}},
		{"enter with the last of its fuel", "0 0 0", "epoch sc 1 1 1", []string{"enter; leave"}, []int{0, 0}, "", []string{"mark 0: 1", "fuel 0: 0"}},
		{"the date", "0 2 0", "epoch sc 1 8 1", one, []int{0, 0, 0, 0}, "", []string{"bag 0: 1@1:0", "micro 0: marks 0 0"}},
		{"a mark", "0 2 0", "epoch sc 1 8 1", one, []int{0, 0, 0, 0, 0}, "", []string{"micro 0: advance 0 0", "epoch: 0"}},
		{"one more", "0 2 0", "epoch sc 1 8 1", one, []int{0, 0, 0, 0, 0, 0}, "", []string{"micro 0: release 0 1", "epoch: 1"}},
		{"too early to go", "0 2 0", "epoch sc 1 8 1", one, []int{0, 0, 0, 0, 0, 0, 0}, "", []string{"micro 0: none 0 0", "bag 0: 1@1:0", "cell 1: retired 1 0 0"}},
		{"the later date", "0 2 0", "epoch sc 1 8 1", one, []int{0, 0, 0, 0, 0, 0, 0, 0, 0}, "", []string{"bag 0: 1@1:0 2@1:1", "micro 0: marks 0 1"}},
		{"gone two epochs later", "0 2 0", "epoch sc 1 8 1", one, []int{0, 0, 0, 0, 0, 0, 0, 0, 0, 0, 0, 0}, "", []string{"bag 0: 2@1:1", "free: 1", "epoch: 2", "cell 2: retired 1 0 1"}},
		{"too few", "0 2 0", "epoch sc 2 8 1", one, []int{0, 0, 0, 0}, "", []string{"bag 0: 1@1:0", "micro 0: none 0 0"}},
		{"a mark of this epoch", "0 2 0", "epoch sc 1 16 1", two, []int{1, 1, 0, 0, 0, 0, 0}, "", []string{"mark 1: 1", "micro 0: advance 0 0"}},
		{"a mark of an earlier epoch", "0 2 0", "epoch sc 1 16 1", two, []int{1, 1, 0, 0, 0, 0, 0, 0, 0, 0, 0, 0, 0, 0}, "", []string{"epoch: 1", "micro 0: none 0 0", "bag 0: 1@1:0 2@1:1", "mark 1: 1"}},
		{"an enter that read an earlier epoch", "0 2 0", "epoch sc 1 16 1", two, []int{1, 0, 0, 0, 0, 0, 0, 1}, "", []string{"epoch: 1", "mark 1: 1", "micro 0: release 0 1"}},
		{"both advance, the first one does", "0 2 0", "epoch sc 1 16 1", two, []int{1, 1, 1, 1, 0, 0, 1, 0, 1, 0, 1, 0, 1, 0}, "", []string{"epoch: 1", "micro 0: release 0 1", "micro 1: advance 0 0"}},
		{"both advance, the second one does not", "0 2 0", "epoch sc 1 16 1", two, []int{1, 1, 1, 1, 0, 0, 1, 0, 1, 0, 1, 0, 1, 0, 1}, "", []string{"epoch: 1", "micro 1: none 0 0", "bag 1: 1@1:0"}},
		{"each has a mark of its own", "0 0 0", "manual sc 1 8 1", []string{"enter; leave", "enter", "leave; enter"}, []int{1, 1, 2, 2, 2, 0, 0, 0}, "", []string{"mark 0: 0", "mark 1: 1", "mark 2: 1"}},
	})
}

// P29.1: quiet states: counts, snapshots, and what goes when a snapshot is over.
func TestQuiet(t *testing.T) {
	two := []string{"new 0; new 1; retire 0; retire 1; quiet; quiet; quiet", "quiet; quiet"}
	holdScripts(t, []script{
		{"a count", "0 0 0", "quiet sc 1 8 1", []string{"quiet; quiet", "quiet"}, []int{0, 0, 1}, "", []string{"count 0: 2", "count 1: 1", "micro 0: none 0 0"}},
		{"a count, by any scheme", "0 0 0", "hazard sc 1 8 1", []string{"quiet; quiet", "quiet"}, []int{0, 0, 1}, "", []string{"count 0: 2", "count 1: 1"}},
		{"the first count seen", "0 2 0", "quiet sc 1 8 1", two, []int{1, 0, 0, 0, 0}, "", []string{"micro 0: snapshot 1 0", "seen 0: 0", "snap 0: "}},
		{"the snapshot", "0 2 0", "quiet sc 1 8 1", two, []int{1, 0, 0, 0, 0, 0}, "", []string{"micro 0: none 0 0", "seen 0: ", "snap 0: 0 1", "old 0: 1"}},
		{"one snapshot at a time", "0 2 0", "quiet sc 1 8 1", two, []int{1, 0, 0, 0, 0, 0, 0}, "", []string{"micro 0: none 0 0", "bag 0: 1@1:0 2@1:0", "old 0: 1"}},
		{"quiet looks at counts", "0 2 0", "quiet sc 1 8 1", two, []int{1, 0, 0, 0, 0, 0, 0, 0}, "", []string{"micro 0: counts 0 0", "count 0: 1"}},
		{"its own need not be another", "0 2 0", "quiet sc 1 8 1", two, []int{1, 0, 0, 0, 0, 0, 0, 0, 0}, "", []string{"micro 0: counts 1 0"}},
		{"one that was not quiet since", "0 2 0", "quiet sc 1 8 1", two, []int{1, 0, 0, 0, 0, 0, 0, 0, 0, 0}, "", []string{"micro 0: none 0 0", "snap 0: 0 1", "bag 0: 1@1:0 2@1:0"}},
		{"one that was", "0 2 0", "quiet sc 1 8 1", two, []int{1, 0, 0, 0, 0, 0, 0, 0, 0, 1, 0}, "", []string{"micro 0: release 0 0", "count 1: 2"}},
		{"the old ones go", "0 2 0", "quiet sc 1 8 1", two, []int{1, 0, 0, 0, 0, 0, 0, 0, 0, 1, 0, 0}, "", []string{"micro 0: none 0 0", "snap 0: ", "old 0: 0", "bag 0: 2@1:0", "free: 1", "cell 2: retired 1 0 1"}},
		{"quiet without a snapshot", "0 2 0", "quiet sc 1 8 1", two, []int{1, 0, 0, 0, 0, 0, 0, 0, 0, 1, 0, 0, 0}, "", []string{"micro 0: none 0 0", "count 0: 2"}},
	})
}

// P29.1: under TSO, too, a micro's stores wait, with Pc 0, and what it sees is what waits in its own thread's buffer, if something does.
func TestMicroWaits(t *testing.T) {
	holdScripts(t, []script{
		{"a mark waits", "0 0 0", "epoch tso 1 8 1", []string{"set 0 1; enter; halt", "halt"}, []int{0, 0, 0}, "", []string{"buffer 0: 7.0.0=1,0,0", "mark 0: 0", "micro 0: none 0 0"}},
		{"a mark goes out", "0 0 0", "epoch tso 1 8 1", []string{"set 0 1; enter; halt", "halt"}, []int{0, 0, 0, 2}, "", []string{"buffer 0: ", "mark 0: 1"}},
		{"a count waits, and is reckoned with", "0 0 0", "quiet tso 1 8 4", []string{"quiet; quiet; quiet", "halt"}, []int{0, 0, 2, 0}, "", []string{"buffer 0: 8.0.0=2,0,1 8.0.0=3,0,2", "count 0: 1"}},
		{"a thread sees its own guard that waits, and no other's", "1 1 1", "hazard tso 1 8 2", []string{"new 0; put 0 0; guard 0 0; retire 0", "look 0 0; guard 0 0"}, []int{0, 0, 2, 0, 1, 1, 0, 0, 0}, "", []string{"seen 0: 1 0", "buffer 0: 5.0.0=1@1,0,2", "buffer 1: 5.1.0=1@1,0,1"}},
		{"unseen, it goes", "1 1 1", "hazard tso 1 8 2", []string{"new 0; put 0 0; retire 0", "look 0 0; guard 0 0; load 1 0 0"}, []int{0, 0, 2, 1, 1, 0, 0, 0, 0, 1}, "9: uaf 1 2", []string{"cell 1: free 1 0 0", "buffer 1: 5.1.0=1@1,0,1"}},
		{"behind a fence it is seen", "1 1 1", "hazard tso 1 8 2", []string{"new 0; put 0 0; retire 0", "look 0 0; guard 0 0; fence; load 1 0 0"}, []int{0, 0, 2, 1, 1, 3, 1, 0, 0, 0, 0, 1}, "", []string{"cell 1: retired 1 0 0", "slot 1 0: 1@1", "bag 0: 1@1:0"}},
		{"its own mark that waits agrees", "0 1 0", "epoch tso 1 16 4", []string{"new 0; enter; retire 0; halt", "halt"}, []int{0, 0, 0, 0, 0, 0, 0}, "", []string{"buffer 0: 7.0.0=1,0,0", "mark 0: 0", "micro 0: advance 0 0"}},
		{"another's that waits is not seen", "0 1 0", "epoch tso 1 16 4", []string{"new 0; retire 0; halt", "enter; leave"}, []int{1, 1, 0, 0, 0, 0, 0, 0}, "", []string{"buffer 1: 7.1.0=1,0,0", "epoch: 1"}},
		{"its own count that waits is in its snapshot", "0 1 0", "quiet tso 1 16 4", []string{"new 0; quiet; retire 0; halt", "quiet"}, []int{1, 0, 0, 0, 0, 0}, "", []string{"snap 0: 1 0", "count 0: 0", "count 1: 0"}},
		{"quiet, with its count waiting, looks at counts", "0 1 0", "quiet tso 1 16 4", []string{"new 0; retire 0; quiet; halt"}, []int{0, 0, 0, 0, 0, 0}, "", []string{"snap 0: ", "free: 1", "buffer 0: 8.0.0=1,0,2"}},
	})
}

// P29.1: where the buffer is full the mark waits for room, and where it is not empty the epoch waits to be made one more.
func TestMicroHindered(t *testing.T) {
	b := newPair(t, program(t, "1 1 0", "put 0 0; enter; new 0; retire 0"), config(t, "epoch tso 1 8 1"))
	b.run(0, 0)
	b.holdFacts("micro 0: enter 0 0", "buffer 0: 1.0.0=0,0,0")
	holdCan(b, 1)
	b.run(1)
	holdCan(b, 0)
	b.run(0, 0, 0, 0, 0)
	b.holdFacts("micro 0: advance 0 0", "buffer 0: 7.0.0=1,0,0")
	holdCan(b, 1)
	if f, ok := b.m.Foot(0); !ok || len(f.Reads) != 1 || f.Reads[0].Kind != api.PlEpoch || len(f.Writes) != 1 || f.Writes[0].Kind != api.PlEpoch {
		t.Fatalf("Foot(0) = %v, %v", f, ok)
	}
	b.run(1, 0, 0)
	b.holdFacts("epoch: 1", "mark 0: 1", "bag 0: 1@1:0")
	holdCan(b)
	undoAll(b)
}
