package scheme_test

import (
	"slices"
	"testing"

	"warrener/api"
	"warrener/scheme"
)

// P24.2: Reads, written out.
func TestReadsOneByOne(t *testing.T) {
	slot := func(i int, j int) api.Place { return api.Place{Kind: api.PlSlot, I: i, J: j} }
	mark := func(i int) api.Place { return api.Place{Kind: api.PlMark, I: i} }
	count := func(i int) api.Place { return api.Place{Kind: api.PlCount, I: i} }
	none, epoch := api.Place{}, api.Place{Kind: api.PlEpoch}
	for _, x := range []struct {
		threads, slots, kind, i int
		want                    api.Place
	}{
		{2, 1, api.MiGuards, -1, none}, {2, 1, api.MiGuards, 0, slot(0, 0)}, {2, 1, api.MiGuards, 1, slot(1, 0)}, {2, 1, api.MiGuards, 2, none}, {2, 1, api.MiGuards, 3, none},
		{2, 2, api.MiGuards, 1, slot(0, 1)}, {2, 2, api.MiGuards, 2, slot(1, 0)}, {2, 2, api.MiGuards, 3, slot(1, 1)}, {2, 2, api.MiGuards, 4, none},
		{6, 5, api.MiGuards, 7, slot(3, 1)}, {6, 5, api.MiGuards, 8, none}, {2, 0, api.MiGuards, 0, none}, {2, -1, api.MiGuards, 0, none}, {0, 2, api.MiGuards, 0, none},
		{2, 1, api.MiDate, 0, epoch}, {2, 1, api.MiDate, -1, epoch}, {2, 1, api.MiDate, 2, epoch}, {0, 0, api.MiDate, 0, epoch}, {2, 1, api.MiDate, least, epoch}, {2, 1, api.MiDate, most, epoch},
		{2, 1, api.MiAdvance, 0, epoch}, {2, 1, api.MiAdvance, -1, epoch}, {2, 1, api.MiAdvance, 2, epoch}, {0, 0, api.MiAdvance, 0, epoch}, {2, 1, api.MiAdvance, least, epoch}, {2, 1, api.MiAdvance, most, epoch},
		{2, 1, api.MiMarks, -1, none}, {2, 1, api.MiMarks, 0, mark(0)}, {2, 1, api.MiMarks, 1, mark(1)}, {2, 1, api.MiMarks, 2, none},
		{4, 0, api.MiMarks, 3, mark(3)}, {9, 0, api.MiMarks, 3, mark(3)}, {9, 0, api.MiMarks, 4, none}, {0, 2, api.MiMarks, 0, none},
		{2, 1, api.MiSnapshot, -1, none}, {2, 1, api.MiSnapshot, 0, count(0)}, {2, 1, api.MiSnapshot, 1, count(1)}, {2, 1, api.MiSnapshot, 2, none},
		{4, 0, api.MiSnapshot, 3, count(3)}, {9, 0, api.MiSnapshot, 3, count(3)}, {9, 0, api.MiSnapshot, 4, none}, {0, 2, api.MiSnapshot, 0, none},
		{2, 1, api.MiCounts, -1, none}, {2, 1, api.MiCounts, 0, count(0)}, {2, 1, api.MiCounts, 1, count(1)}, {2, 1, api.MiCounts, 2, none},
		{4, 0, api.MiCounts, 3, count(3)}, {9, 0, api.MiCounts, 3, count(3)}, {9, 0, api.MiCounts, 4, none}, {0, 2, api.MiCounts, 0, none},
		{2, 1, api.MiNone, 0, none}, {2, 1, api.MiEnter, 0, none}, {2, 1, api.MiRelease, 0, none}, {2, 1, -1, 0, none}, {2, 1, 9, 0, none}, {2, 1, least, 0, none}, {2, 1, most, 0, none},
	} {
		holdReads(t, program(x.threads, x.slots), api.Micro{Kind: x.kind, I: x.i, N: 1, Seen: []int64{1}}, x.want, x.want != none)
	}
}

// P24.2: each kind, each place, programs of no thread to more than may be, of slots of all kinds.
func TestReadsAll(t *testing.T) {
	for _, kind := range kinds {
		for _, i := range places {
			for threads := range 7 {
				for _, slots := range eachSlots {
					p, m := program(threads, slots), api.Micro{Kind: kind, I: i, N: int64(i), Seen: []int64{3}}
					x, ok := readsWants(p, m)
					holdReads(t, p, m, x, ok)
				}
			}
		}
	}
}

// P24.2: as many places as there are slots, or threads, are seen, in order, and then none.
func TestReadsInOrder(t *testing.T) {
	for threads := range 7 {
		for _, slots := range eachSlots {
			p := program(threads, slots)
			for i := range 12 {
				x, ok := scheme.Reads(p, api.Micro{Kind: api.MiGuards, I: i})
				if l := placesOf(p); ok != (i < len(l)) || ok && x != l[i] {
					t.Fatalf("of %d threads, %d slots the slot %d is %+v, %v", threads, slots, i, x, ok)
				}
			}
		}
	}
}

// P24.2: the micro's number, what it has seen, and what a program has beside its threads and slots do not matter.
func TestReadsElse(t *testing.T) {
	c := chance(2)
	for range 3000 {
		p, m := c.prog(), api.Micro{Kind: c.next(9), I: c.next(9) - 1, N: c.number(), Seen: c.list(4)}
		x, ok := scheme.Reads(p, m)
		p.Roots, p.Cells = c.next(9), c.next(9)
		holdReads(t, p, api.Micro{Kind: m.Kind, I: m.I, N: c.number(), Seen: c.list(4)}, x, ok)
	}
}

// P24.3: a micro that sees nothing leaves the thread as it was, whatever is told.
func TestSeeBlind(t *testing.T) {
	for _, kind := range blind {
		for _, i := range []int{0, 1, 3, -1, least, most} {
			th := thread(api.Micro{Kind: kind, I: i, N: 7, Seen: []int64{1, 2}})
			for _, n := range numbers {
				holdSee(t, program(2, 1), api.Config{Scheme: api.Hazard, Threshold: 1}, i, th, n, th)
			}
		}
	}
}

// P24.3: MiGuards, written out: first, in the midst, last, beyond, below 0, and where there are no slots.
func TestSeeGuards(t *testing.T) {
	for _, x := range []struct {
		threads, slots, i int
		seen              []int64
		want              api.Micro
	}{
		{2, 2, 0, nil, api.Micro{Kind: api.MiGuards, I: 1, Seen: []int64{9}}}, {2, 2, 1, []int64{4}, api.Micro{Kind: api.MiGuards, I: 2, Seen: []int64{4, 9}}},
		{2, 2, 2, []int64{4, 4}, api.Micro{Kind: api.MiGuards, I: 3, Seen: []int64{4, 4, 9}}}, {2, 2, 3, []int64{4, 5, 6}, api.Micro{Kind: api.MiRelease, Seen: []int64{4, 5, 6, 9}}},
		{2, 2, 4, []int64{4}, api.Micro{Kind: api.MiRelease, Seen: []int64{4, 9}}}, {2, 2, 100, nil, api.Micro{Kind: api.MiRelease, Seen: []int64{9}}}, {2, 2, most, []int64{9}, api.Micro{Kind: api.MiRelease, Seen: []int64{9, 9}}},
		{2, 2, most - 1, nil, api.Micro{Kind: api.MiRelease, Seen: []int64{9}}}, {2, 2, -1, []int64{8}, api.Micro{Kind: api.MiGuards, I: 0, Seen: []int64{8, 9}}}, {2, 2, -5, nil, api.Micro{Kind: api.MiGuards, I: -4, Seen: []int64{9}}},
		{2, 2, least, nil, api.Micro{Kind: api.MiGuards, I: least + 1, Seen: []int64{9}}}, {1, 1, 0, nil, api.Micro{Kind: api.MiRelease, Seen: []int64{9}}}, {1, 1, -1, nil, api.Micro{Kind: api.MiGuards, Seen: []int64{9}}},
		{2, 0, 0, nil, api.Micro{Kind: api.MiRelease, Seen: []int64{9}}}, {0, 2, 0, nil, api.Micro{Kind: api.MiRelease, Seen: []int64{9}}}, {2, -3, 1, nil, api.Micro{Kind: api.MiRelease, Seen: []int64{9}}},
		{7, 7, 6, nil, api.Micro{Kind: api.MiGuards, I: 7, Seen: []int64{9}}}, {7, 7, 7, nil, api.Micro{Kind: api.MiRelease, Seen: []int64{9}}}, {7, 1, 3, nil, api.Micro{Kind: api.MiRelease, Seen: []int64{9}}}, {3, 1, 1, nil, api.Micro{Kind: api.MiGuards, I: 2, Seen: []int64{9}}},
	} {
		th := thread(api.Micro{Kind: api.MiGuards, I: x.i, Seen: x.seen})
		want := th
		want.Micro = x.want
		for _, me := range []int{0, 1, -1, most} {
			holdSee(t, program(x.threads, x.slots), api.Config{Scheme: api.Hazard, Threshold: 2}, me, th, 9, want)
		}
	}
}

// P24.3: MiDate, written out: the last of the bag has n, if there is one; marks are to be seen if the bag has Threshold or more.
func TestSeeDate(t *testing.T) {
	for _, threshold := range thresholds {
		for _, bag := range around(threshold) {
			for _, n := range numbers {
				for _, i := range []int{0, 3, -1, most} {
					th := with(thread(api.Micro{Kind: api.MiDate, I: i, N: 5, Seen: []int64{6, 7}}), bag)
					want := th
					want.Bag = dated(bag, n)
					want.Micro = api.Micro{}
					if len(bag) >= threshold {
						want.Micro = api.Micro{Kind: api.MiMarks, N: n}
					}
					holdSee(t, program(2, 1), api.Config{Scheme: api.Epoch, Threshold: threshold}, i, th, n, want)
				}
			}
		}
	}
}

// dated is the bag whose last entry has that number.
func dated(bag []api.Bagged, n int64) []api.Bagged {
	if len(bag) == 0 {
		return nil
	}
	last := bag[len(bag)-1]
	return slices.Concat(bag[:len(bag)-1], []api.Bagged{{Cell: last.Cell, Gen: last.Gen, N: n}})
}

// P24.3: of an entry that the bag has several times, just the last one is dated.
func TestSeeDateOften(t *testing.T) {
	b := api.Bagged{Cell: 2, Gen: 3, N: 4}
	th := with(thread(api.Micro{Kind: api.MiDate}), []api.Bagged{b, b, b})
	want := with(thread(api.Micro{Kind: api.MiMarks, N: 8}), []api.Bagged{b, b, {Cell: 2, Gen: 3, N: 8}})
	holdSee(t, program(1, 0), api.Config{Scheme: api.Epoch, Threshold: 3}, 0, th, 8, want)
	want.Micro = api.Micro{}
	holdSee(t, program(1, 0), api.Config{Scheme: api.Epoch, Threshold: 4}, 0, th, 8, want)
}

// P24.3: MiDate has no place: with and without threads it is the same.
func TestSeeDateThreads(t *testing.T) {
	for threads := range 7 {
		th := thread(api.Micro{Kind: api.MiDate, I: threads})
		want := with(thread(api.Micro{Kind: api.MiMarks, N: 2}), dated(retired(3), 2))
		holdSee(t, program(threads, 1), api.Config{Scheme: api.Epoch, Threshold: 1}, 0, th, 2, want)
	}
}

// P24.3: MiMarks: a mark of nobody within, and the mark of N, agree; all others end it.
func TestSeeMarks(t *testing.T) {
	for _, e := range numbers {
		mark := e*2 + 1
		for _, n := range slices.Concat(numbers, []int64{0, mark, mark - 1, mark + 1, mark - 2, mark + 2, -mark, e, 2 * e, mark + least}) {
			for i := range 4 {
				th := thread(api.Micro{Kind: api.MiMarks, I: i, N: e})
				want := th
				switch {
				case n != 0 && n != mark:
					want.Micro = api.Micro{}
				case i == 3:
					want.Micro = api.Micro{Kind: api.MiAdvance, N: e}
				default:
					want.Micro = api.Micro{Kind: api.MiMarks, I: i + 1, N: e}
				}
				holdSee(t, program(4, 1), api.Config{Scheme: api.Epoch, Threshold: 2}, i, th, n, want)
			}
		}
	}
}

// P24.3: MiMarks, written out: first, in the midst, last, beyond, below 0, and where there are no threads.
func TestSeeMarksPlaces(t *testing.T) {
	for _, x := range []struct {
		threads, i int
		want       api.Micro
	}{
		{3, 0, api.Micro{Kind: api.MiMarks, I: 1, N: 6}}, {3, 1, api.Micro{Kind: api.MiMarks, I: 2, N: 6}}, {3, 2, api.Micro{Kind: api.MiAdvance, N: 6}}, {3, 3, api.Micro{Kind: api.MiAdvance, N: 6}},
		{3, 100, api.Micro{Kind: api.MiAdvance, N: 6}}, {3, most - 1, api.Micro{Kind: api.MiAdvance, N: 6}}, {3, most, api.Micro{Kind: api.MiAdvance, N: 6}},
		{3, -1, api.Micro{Kind: api.MiMarks, I: 0, N: 6}}, {3, -7, api.Micro{Kind: api.MiMarks, I: -6, N: 6}}, {3, least, api.Micro{Kind: api.MiMarks, I: least + 1, N: 6}},
		{1, 0, api.Micro{Kind: api.MiAdvance, N: 6}}, {0, 0, api.Micro{Kind: api.MiAdvance, N: 6}}, {9, 2, api.Micro{Kind: api.MiMarks, I: 3, N: 6}}, {9, 3, api.Micro{Kind: api.MiAdvance, N: 6}}, {9, 4, api.Micro{Kind: api.MiAdvance, N: 6}},
	} {
		th := thread(api.Micro{Kind: api.MiMarks, I: x.i, N: 6})
		for _, n := range []int64{0, 13} {
			want := th
			want.Micro = x.want
			holdSee(t, program(x.threads, 2), api.Config{Scheme: api.Epoch, Threshold: 2}, 0, th, n, want)
		}
		for _, n := range []int64{1, 6, 11, 12, 14, 15, -13} {
			want := th
			want.Micro = api.Micro{}
			holdSee(t, program(x.threads, 2), api.Config{Scheme: api.Epoch, Threshold: 2}, 0, th, n, want)
		}
	}
}

// P24.3: MiSnapshot, written out: what it saw is the snapshot behind the last thread, and all of the bag is old then; ahead of that both are as they were.
func TestSeeSnapshot(t *testing.T) {
	for _, x := range []struct {
		threads, i int
		seen       []int64
		ends       bool
	}{
		{3, 0, nil, false}, {3, 1, []int64{4}, false}, {3, 2, []int64{4, 5}, true}, {3, 3, []int64{4, 5, 6}, true}, {3, 100, nil, true}, {3, most - 1, []int64{1}, true}, {3, most, []int64{1}, true},
		{3, -1, []int64{7}, false}, {3, -9, nil, false}, {3, least, []int64{7}, false}, {1, 0, nil, true}, {0, 0, nil, true}, {9, 2, []int64{4, 5}, false}, {9, 3, []int64{4, 5, 6}, true}, {9, 4, nil, true},
	} {
		for _, bag := range bags() {
			for _, snap := range snaps() {
				th := with(thread(api.Micro{Kind: api.MiSnapshot, I: x.i, Seen: x.seen}), bag)
				th.Snap = snap
				want := th
				seen := slices.Concat(x.seen, []int64{12})
				if x.ends {
					want.Micro, want.Snap, want.Old = api.Micro{}, seen, len(bag)
				} else {
					want.Micro = api.Micro{Kind: api.MiSnapshot, I: x.i + 1, Seen: seen}
				}
				holdSee(t, program(x.threads, 1), api.Config{Scheme: api.Quiet, Threshold: 2}, 1, th, 12, want)
			}
		}
	}
}

// P24.3: MiCounts, written out: one that has not passed ends it; t itself, those beyond the snapshot, and those with another count pass.
func TestSeeCounts(t *testing.T) {
	on := func(i int) api.Micro { return api.Micro{Kind: api.MiCounts, I: i} }
	release := api.Micro{Kind: api.MiRelease}
	for _, x := range []struct {
		threads, i, me int
		n              int64
		snap           []int64
		want           api.Micro
	}{
		{3, 0, 1, 5, []int64{5, 6, 7}, api.Micro{}}, {3, 0, 1, 4, []int64{5, 6, 7}, on(1)}, {3, 0, 1, 6, []int64{5, 6, 7}, on(1)}, {3, 0, 0, 5, []int64{5, 6, 7}, on(1)},
		{3, 1, 0, 6, []int64{5, 6, 7}, api.Micro{}}, {3, 1, 0, 5, []int64{5, 6, 7}, on(2)}, {3, 1, 1, 6, []int64{5, 6, 7}, on(2)}, {3, 1, -1, 6, []int64{5, 6, 7}, api.Micro{}}, {3, 1, most, 6, []int64{5, 6, 7}, api.Micro{}},
		{3, 2, 0, 7, []int64{5, 6, 7}, api.Micro{}}, {3, 2, 0, 8, []int64{5, 6, 7}, release}, {3, 2, 2, 7, []int64{5, 6, 7}, release}, {3, 2, 3, 7, []int64{5, 6, 7}, api.Micro{}}, {3, 2, least, 7, []int64{5, 6, 7}, api.Micro{}},
		{3, 0, 1, 0, nil, on(1)}, {3, 2, 0, 0, nil, release}, {3, 1, 0, 6, []int64{6}, on(2)}, {3, 2, 0, 6, []int64{6}, release}, {3, 0, 1, 6, []int64{6}, api.Micro{}},
		{3, 3, 0, 7, []int64{5, 6, 7}, release}, {3, 3, 0, 8, []int64{5, 6, 7, 8}, api.Micro{}}, {3, 100, 0, 8, []int64{5, 6, 7, 8}, release}, {3, most - 1, 0, 5, []int64{5}, release}, {3, most, 0, 5, []int64{5}, release}, {3, most, most, 5, []int64{5}, release},
		{3, -1, 0, 5, []int64{5, 5, 5}, on(0)}, {3, -1, -1, 5, []int64{5, 5, 5}, on(0)}, {3, -4, 0, 5, []int64{5, 5, 5}, on(-3)}, {3, least, 0, 5, []int64{5, 5, 5}, on(least + 1)},
		{1, 0, 0, 5, []int64{5}, release}, {1, 0, 1, 5, []int64{5}, api.Micro{}}, {1, 0, 1, 9, []int64{5}, release}, {0, 0, 0, 5, []int64{5}, release}, {0, 0, 1, 5, []int64{5}, api.Micro{}}, {0, 0, 1, 6, nil, release},
		{9, 2, 0, 8, []int64{5, 6, 7}, on(3)}, {9, 3, 0, 8, []int64{5, 6, 7}, release}, {9, 4, 0, 8, []int64{5, 6, 7}, release},
		{2, 1, 0, least, []int64{0, least}, api.Micro{}}, {2, 1, 0, most, []int64{0, least}, release}, {2, 1, 0, least, []int64{0, most}, release}, {2, 1, 0, most, []int64{0, most}, api.Micro{}},
	} {
		th := thread(api.Micro{Kind: api.MiCounts, I: x.i})
		th.Snap = x.snap
		want := th
		want.Micro = x.want
		holdSee(t, program(x.threads, 1), api.Config{Scheme: api.Quiet, Threshold: 2}, x.me, th, x.n, want)
	}
}

// P24.3: behind what ends it, a micro has seen nothing, has no number but that of an epoch to come, and is at its beginning.
func TestSeeEnds(t *testing.T) {
	for _, kind := range []int{api.MiDate, api.MiMarks, api.MiSnapshot, api.MiCounts} {
		for _, n := range []int64{0, 1, 13, 41, 42} {
			for _, threads := range []int{1, 2, 4, 9} {
				th := thread(api.Micro{Kind: kind, I: min(threads, 4) - 1, N: 6, Seen: []int64{1, 2, 3}})
				got := scheme.See(program(threads, 2), api.Config{Scheme: api.Epoch, Threshold: 2}, 9, th, n)
				if got.Micro.Kind == kind || len(got.Micro.Seen) != 0 || got.Micro.I != 0 {
					t.Fatalf("See of %d threads, %+v, %d: the micro is %+v", threads, th, n, got.Micro)
				}
				if k := got.Micro.Kind; k != api.MiMarks && k != api.MiAdvance && got.Micro.N != 0 {
					t.Fatalf("See of %d threads, %+v, %d: the micro is %+v", threads, th, n, got.Micro)
				}
			}
		}
	}
}

// P24.3: each kind that sees, each place, each count of threads and slots, with t of all kinds: as the page says.
func TestSeeAll(t *testing.T) {
	c := chance(3)
	for _, kind := range []int{api.MiGuards, api.MiDate, api.MiMarks, api.MiSnapshot, api.MiCounts} {
		for _, i := range places {
			for threads := range 7 {
				for _, slots := range []int{-1, 0, 1, 2, 3, most} {
					seesAsTold(t, &c, program(threads, slots), kind, i)
				}
			}
		}
	}
}

// seesAsTold holds See of a micro at that place, for some threads, numbers and configs.
func seesAsTold(t *testing.T, c *chance, p api.Prog, kind int, i int) {
	t.Helper()
	for _, me := range []int{i, 0, 1, -1, 4, least, most} {
		th, conf := c.thread(), c.config()
		th.Micro.Kind, th.Micro.I = kind, i
		own := int64(0)
		if 0 <= i && i < len(th.Snap) {
			own = th.Snap[i]
		}
		for _, n := range []int64{0, th.Micro.N*2 + 1, own, own + 1, c.any()} {
			holdSee(t, p, conf, me, th, n, seeWants(p, conf, me, th, n))
		}
	}
}

// P24.3: which scheme a config names, its order, fuel and depth do not matter: the micro's kind alone tells what is seen.
func TestSeeElse(t *testing.T) {
	c := chance(4)
	for range 3000 {
		p, conf, th := c.prog(), c.config(), c.thread()
		me, n := c.next(5), c.number()
		want := seeWants(p, conf, me, th, n)
		conf.Scheme, conf.Order, conf.Fuel, conf.Depth = schemes[c.next(len(schemes))], c.next(9), c.next(99), c.next(9)
		p.Roots, p.Cells = c.next(9), c.next(9)
		holdSee(t, p, conf, me, th, n, want)
	}
}

// P24.3: Advanced, for each kind of micro, each number, with done and without.
func TestAdvancedAll(t *testing.T) {
	for _, kind := range kinds {
		for _, i := range []int{0, 3, -1, most} {
			for _, n := range numbers {
				th := thread(api.Micro{Kind: kind, I: i, N: n, Seen: []int64{1, 2}})
				want := th
				want.Micro = api.Micro{}
				holdAdvanced(t, th, false, want)
				want.Micro = api.Micro{Kind: api.MiRelease, N: n + 1}
				holdAdvanced(t, th, true, want)
			}
		}
	}
}

// P24.3: Advanced, written out: one more, gone round.
func TestAdvancedOneByOne(t *testing.T) {
	for _, x := range []struct{ n, want int64 }{{0, 1}, {1, 2}, {6, 7}, {-1, 0}, {-2, -1}, {1 << 32, 1<<32 + 1}, {most - 1, most}, {most, least}, {least, least + 1}} {
		th := thread(api.Micro{Kind: api.MiAdvance, N: x.n})
		holdAdvanced(t, th, true, thread(api.Micro{Kind: api.MiRelease, N: x.want}))
		holdAdvanced(t, th, false, thread(api.Micro{}))
	}
}
