package act_test

import (
	"testing"

	"warrener/api"
)

// P27.1: each micro, written out: thread 1 of three, of two slots each.
func TestMicrosOneByOne(t *testing.T) {
	for _, x := range []struct {
		m    api.Micro
		want api.Act
	}{
		{api.Micro{Kind: api.MiEnter}, api.Act{Kind: api.ActWrite, Place: api.Place{Kind: api.PlMark, I: 1}, Word: api.Word{N: 1}}},
		{api.Micro{Kind: api.MiEnter, N: 3}, api.Act{Kind: api.ActWrite, Place: api.Place{Kind: api.PlMark, I: 1}, Word: api.Word{N: 7}}},
		{api.Micro{Kind: api.MiEnter, I: 2, N: -3}, api.Act{Kind: api.ActWrite, Place: api.Place{Kind: api.PlMark, I: 1}, Word: api.Word{N: -5}}},
		{api.Micro{Kind: api.MiEnter, N: most}, api.Act{Kind: api.ActWrite, Place: api.Place{Kind: api.PlMark, I: 1}, Word: api.Word{N: -1}}},
		{api.Micro{Kind: api.MiEnter, N: least}, api.Act{Kind: api.ActWrite, Place: api.Place{Kind: api.PlMark, I: 1}, Word: api.Word{N: 1}}},
		{api.Micro{Kind: api.MiAdvance}, api.Act{Kind: api.ActSwap, Place: api.Place{Kind: api.PlEpoch}, Word: api.Word{N: 1}}},
		{api.Micro{Kind: api.MiAdvance, I: 2, N: 6}, api.Act{Kind: api.ActSwap, Place: api.Place{Kind: api.PlEpoch}, Want: api.Word{N: 6}, Word: api.Word{N: 7}}},
		{api.Micro{Kind: api.MiAdvance, N: -1}, api.Act{Kind: api.ActSwap, Place: api.Place{Kind: api.PlEpoch}, Want: api.Word{N: -1}}},
		{api.Micro{Kind: api.MiAdvance, N: most}, api.Act{Kind: api.ActSwap, Place: api.Place{Kind: api.PlEpoch}, Want: api.Word{N: most}, Word: api.Word{N: least}}},
		{api.Micro{Kind: api.MiAdvance, N: least}, api.Act{Kind: api.ActSwap, Place: api.Place{Kind: api.PlEpoch}, Want: api.Word{N: least}, Word: api.Word{N: least + 1}}},
		{api.Micro{Kind: api.MiRelease}, api.Act{Kind: api.ActRelease}},
		{api.Micro{Kind: api.MiRelease, I: 1, N: 9, Seen: []int64{1, 2}}, api.Act{Kind: api.ActRelease}},
		{api.Micro{Kind: api.MiGuards}, api.Act{Kind: api.ActScan, Place: api.Place{Kind: api.PlSlot}}},
		{api.Micro{Kind: api.MiGuards, I: 3, N: 9, Seen: []int64{1, 2, 3}}, api.Act{Kind: api.ActScan, Place: api.Place{Kind: api.PlSlot, I: 1, J: 1}}},
		{api.Micro{Kind: api.MiGuards, I: 5}, api.Act{Kind: api.ActScan, Place: api.Place{Kind: api.PlSlot, I: 2, J: 1}}},
		{api.Micro{Kind: api.MiGuards, I: 6}, api.Act{}},
		{api.Micro{Kind: api.MiGuards, I: -1}, api.Act{}},
		{api.Micro{Kind: api.MiDate}, api.Act{Kind: api.ActScan, Place: api.Place{Kind: api.PlEpoch}}},
		{api.Micro{Kind: api.MiDate, I: 9, N: 9}, api.Act{Kind: api.ActScan, Place: api.Place{Kind: api.PlEpoch}}},
		{api.Micro{Kind: api.MiMarks}, api.Act{Kind: api.ActScan, Place: api.Place{Kind: api.PlMark}}},
		{api.Micro{Kind: api.MiMarks, I: 2, N: 9}, api.Act{Kind: api.ActScan, Place: api.Place{Kind: api.PlMark, I: 2}}},
		{api.Micro{Kind: api.MiMarks, I: 3}, api.Act{}},
		{api.Micro{Kind: api.MiMarks, I: least}, api.Act{}},
		{api.Micro{Kind: api.MiSnapshot, I: 2}, api.Act{Kind: api.ActScan, Place: api.Place{Kind: api.PlCount, I: 2}}},
		{api.Micro{Kind: api.MiSnapshot, I: 3, N: 1}, api.Act{}},
		{api.Micro{Kind: api.MiCounts, I: 1}, api.Act{Kind: api.ActScan, Place: api.Place{Kind: api.PlCount, I: 1}}},
		{api.Micro{Kind: api.MiCounts, I: most}, api.Act{}},
		{api.Micro{Kind: -1}, api.Act{}},
		{api.Micro{Kind: 9}, api.Act{}},
		{api.Micro{Kind: least, I: 1, N: 1}, api.Act{}},
		{api.Micro{Kind: most, I: 1, N: 1}, api.Act{}},
	} {
		holdOfIs(t, program(3), 1, between(x.m), 41, x.want)
	}
}

// P27.1: micros of all kinds, and numbers that are none, with places and numbers of any size, in programs of one to four threads, of no slot to two.
func TestMicros(t *testing.T) {
	for _, kind := range microKinds() {
		for threads := 1; threads <= 4; threads++ {
			for slots := range 3 {
				p := program(threads, api.Instr{Op: api.OpNew})
				p.Slots = slots
				for _, n := range numbers {
					for i := -2; i <= 9; i++ {
						holdOf(t, p, threads-1, between(api.Micro{Kind: kind, I: i, N: n, Seen: []int64{n}}), n)
					}
					holdOf(t, p, 0, between(api.Micro{Kind: kind, I: int(n), N: 5}), 0)
				}
			}
		}
	}
}

// P27.1: with a micro the instruction at which the thread is makes no difference, nor do its fuel and registers.
func TestMicroAhead(t *testing.T) {
	for op := 1; op <= 25; op++ {
		for _, kind := range microKinds() {
			for _, x := range all(op, 1)[:1] {
				th := running(four(api.Word{N: 1, Cell: 1, Gen: 1}))
				th.Micro = api.Micro{Kind: kind, N: 4}
				holdOf(t, program(2, x), 1, th, 6)
			}
		}
	}
}
