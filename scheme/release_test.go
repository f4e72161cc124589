package scheme_test

import (
	"slices"
	"testing"

	"warrener/api"
	"warrener/scheme"
)

// P24.4: Release, written out: none, one, several and all go, first, last and in the midst.
func TestReleaseOneByOne(t *testing.T) {
	a, b, c, d := api.Bagged{Cell: 1, Gen: 7, N: 3}, api.Bagged{Cell: 2, Gen: 8, N: 4}, api.Bagged{Cell: 3, Gen: 9, N: 5}, api.Bagged{Cell: 1, Gen: 8, N: 6}
	bag := []api.Bagged{a, b, c, d}
	for _, x := range []struct {
		scheme     int
		seen       []int64
		n          int64
		old        int
		gone, kept []api.Bagged
	}{
		{api.Hazard, nil, 9, 4, bag, nil}, {api.Hazard, []int64{}, 9, 0, bag, nil}, {api.Hazard, []int64{9, 0}, 0, 0, bag, nil}, {api.Hazard, []int64{1, 2, 3}, 9, 4, nil, bag},
		{api.Hazard, []int64{1}, 9, 4, []api.Bagged{b, c}, []api.Bagged{a, d}}, {api.Hazard, []int64{2}, 9, 4, []api.Bagged{a, c, d}, []api.Bagged{b}}, {api.Hazard, []int64{3, 3}, 9, 4, []api.Bagged{a, b, d}, []api.Bagged{c}},
		{api.Hazard, []int64{3, 1}, 9, 4, []api.Bagged{b}, []api.Bagged{a, c, d}}, {api.Hazard, []int64{2, 9, 3}, 9, 4, []api.Bagged{a, d}, []api.Bagged{b, c}},
		{api.Epoch, []int64{1}, 4, 4, nil, bag}, {api.Epoch, []int64{1}, 5, 4, []api.Bagged{a}, []api.Bagged{b, c, d}}, {api.Epoch, nil, 6, 0, []api.Bagged{a, b}, []api.Bagged{c, d}}, {api.Epoch, nil, 7, 0, []api.Bagged{a, b, c}, []api.Bagged{d}},
		{api.Epoch, nil, 8, 0, bag, nil}, {api.Epoch, nil, most, 0, bag, nil}, {api.Epoch, nil, least, 4, nil, bag}, {api.Epoch, nil, least + 1, 4, nil, bag}, {api.Epoch, nil, 0, 4, nil, bag},
		{api.Quiet, []int64{1}, 9, 0, nil, bag}, {api.Quiet, []int64{1}, 9, 1, []api.Bagged{a}, []api.Bagged{b, c, d}}, {api.Quiet, nil, 0, 2, []api.Bagged{a, b}, []api.Bagged{c, d}}, {api.Quiet, nil, 0, 3, []api.Bagged{a, b, c}, []api.Bagged{d}},
		{api.Quiet, nil, 0, 4, bag, nil}, {api.Quiet, nil, 0, 5, bag, nil}, {api.Quiet, nil, 0, most, bag, nil}, {api.Quiet, nil, 9, -1, nil, bag}, {api.Quiet, nil, 9, least, nil, bag},
		{api.Manual, nil, 9, 4, nil, bag}, {api.Manual, []int64{1}, most, most, nil, bag},
		{-1, nil, 9, 4, nil, bag}, {4, nil, 9, 4, nil, bag}, {least, nil, 9, 4, nil, bag}, {most, nil, 9, 4, nil, bag}, {1<<32 + 1, nil, 9, 4, nil, bag},
	} {
		th := with(thread(api.Micro{Kind: api.MiRelease, I: 3, N: x.n, Seen: x.seen}), bag)
		th.Old = x.old
		want := with(th, x.kept)
		want.Micro = api.Micro{}
		if x.scheme == api.Quiet {
			want.Snap, want.Old = nil, 0
		}
		holdRelease(t, api.Config{Scheme: x.scheme, Threshold: 2, Fuel: 5}, th, x.gone, want)
	}
}

// P24.4: entries that the bag has several times go and stay together by what is asked of them, in order.
func TestReleaseOften(t *testing.T) {
	x, y := api.Bagged{Cell: 2, Gen: 1, N: 5}, api.Bagged{Cell: 3, Gen: 1, N: 6}
	bag := []api.Bagged{x, y, x, x, y}
	for _, one := range []struct {
		scheme     int
		gone, kept []api.Bagged
	}{
		{api.Hazard, []api.Bagged{y, y}, []api.Bagged{x, x, x}},
		{api.Epoch, []api.Bagged{x, x, x}, []api.Bagged{y, y}},
		{api.Quiet, []api.Bagged{x, y, x}, []api.Bagged{x, y}},
		{api.Manual, nil, bag},
	} {
		th := with(thread(api.Micro{Kind: api.MiRelease, N: 7, Seen: []int64{2}}), bag)
		th.Old = 3
		_, want := releaseWants(api.Config{Scheme: one.scheme}, th)
		if !slices.Equal(want.Bag, one.kept) {
			t.Fatalf("with scheme %d the page's words keep %v", one.scheme, want.Bag)
		}
		holdRelease(t, api.Config{Scheme: one.scheme, Threshold: 1}, th, one.gone, want)
	}
}

// P24.4: no kind of micro is asked for: whatever the thread has had, it has none behind it.
func TestReleaseMicros(t *testing.T) {
	for _, number := range schemes {
		for _, m := range micros() {
			for _, bag := range bags() {
				th := with(thread(m), bag)
				gone, want := releaseWants(api.Config{Scheme: number}, th)
				holdRelease(t, api.Config{Scheme: number, Threshold: 1}, th, gone, want)
			}
		}
	}
}

// P24.4: each number of the micro against numbers of the bag about it, and about both ends.
func TestReleaseEpochs(t *testing.T) {
	var bag []api.Bagged
	for i, n := range numbers {
		bag = append(bag, api.Bagged{Cell: i, Gen: i, N: n})
	}
	for _, e := range numbers {
		for _, by := range []int64{0, 1, 2, 3, -1, -2} {
			th := with(thread(api.Micro{Kind: api.MiRelease, N: e + by}), bag)
			gone, want := releaseWants(api.Config{Scheme: api.Epoch}, th)
			holdRelease(t, api.Config{Scheme: api.Epoch, Threshold: 1}, th, gone, want)
		}
	}
}

// P24.4: Old of all kinds, with bags of none to many; Snap and Old are empty behind Quiet alone.
func TestReleaseOld(t *testing.T) {
	for _, bag := range bags() {
		for _, old := range slices.Concat(places, []int{len(bag) - 1, len(bag), len(bag) + 1}) {
			for _, snap := range snaps() {
				th := with(thread(api.Micro{Kind: api.MiRelease}), bag)
				th.Old, th.Snap = old, snap
				first := max(0, min(old, len(bag)))
				want := with(th, bag[first:])
				want.Micro, want.Snap, want.Old = api.Micro{}, nil, 0
				holdRelease(t, api.Config{Scheme: api.Quiet, Threshold: 2}, th, bag[:first], want)
				for _, number := range []int{api.Manual, api.Hazard, api.Epoch, -1, 4} {
					_, got := scheme.Release(api.Config{Scheme: number}, th)
					if !slices.Equal(got.Snap, snap) || got.Old != old {
						t.Fatalf("Release with scheme %d: the snapshot %v, %d old was %v, %d old", number, got.Snap, got.Old, snap, old)
					}
				}
			}
		}
	}
}

// P24.4: Threshold, order, fuel and depth do not matter.
func TestReleaseElse(t *testing.T) {
	c := chance(6)
	for range 3000 {
		conf, th := c.config(), c.thread()
		gone, want := releaseWants(conf, th)
		conf.Order, conf.Threshold, conf.Fuel, conf.Depth = c.next(9), c.next(99)-9, c.next(99)-9, c.next(9)
		holdRelease(t, conf, th, gone, want)
	}
}

// P24.4: what goes and what stays are together just the bag.
func TestReleaseTogether(t *testing.T) {
	c := chance(7)
	for range 3000 {
		th := with(c.thread(), retired(c.next(9)))
		gone, behind := scheme.Release(c.config(), th)
		all := slices.Concat(gone, behind.Bag)
		slices.SortFunc(all, func(a api.Bagged, b api.Bagged) int { return a.Cell - b.Cell })
		if !slices.Equal(all, th.Bag) {
			t.Fatalf("of %v %v goes, and %v stays", th.Bag, gone, behind.Bag)
		}
	}
}

// steps counts the steps till a thread has no micro; what is seen, and whether the epoch is made one more, is told by chance. A micro that could not step, for it sees no place, fails.
func steps(t *testing.T, c *chance, p api.Prog, conf api.Config, me int, th api.Thread, agree bool) int {
	t.Helper()
	for count := range 100 {
		switch th.Micro.Kind {
		case api.MiNone:
			return count
		case api.MiRelease:
			_, th = scheme.Release(conf, th)
		case api.MiAdvance:
			th = scheme.Advanced(th, agree || c.next(2) == 0)
		default:
			if _, ok := scheme.Reads(p, th.Micro); !ok {
				t.Fatalf("of %d threads, %d slots, %+v, the micro %+v sees no place", len(p.Code), p.Slots, conf, th.Micro)
			}
			n := c.number()
			if agree && th.Micro.Kind == api.MiMarks {
				n = int64(c.next(2)) * (th.Micro.N*2 + 1)
			}
			if agree && th.Micro.Kind == api.MiCounts && th.Micro.I < len(th.Snap) {
				n = th.Snap[th.Micro.I] + 1
			}
			th = scheme.See(p, conf, me, th, n)
		}
	}
	t.Fatalf("of %d threads, %d slots, %+v a micro does not end: %+v", len(p.Code), p.Slots, conf, th)
	return 0
}

// P24.6: behind at most Factor less 1 steps there is no micro, whatever is seen; and just so many are done, where nothing ends it ahead.
func TestComesToItsEnd(t *testing.T) {
	c := chance(8)
	longest, shorter := 0, 0
	for range 60000 {
		p, conf, th := program(1+c.next(6), c.one(4, eachSlots)), c.config(), c.thread()
		me, agree, quieted := c.one(5, places), c.next(2) == 0, c.next(2) == 0
		th.Micro = scheme.Begin(p, conf, th)
		if quieted {
			th.Micro = api.Micro{}
			th = scheme.Quieted(conf, th)
		}
		begun := th.Micro.Kind
		count, limit := steps(t, &c, p, conf, me, th, agree), scheme.Factor(p, conf)-1
		if count > limit {
			t.Fatalf("of %d threads, %d slots, %+v, %+v: %d steps, more than %d", len(p.Code), p.Slots, conf, th, count, limit)
		}
		if agree && begun != api.MiNone && begun != api.MiSnapshot && len(th.Bag) >= conf.Threshold && count != limit {
			t.Fatalf("of %d threads, %d slots, %+v, %+v: %d steps, fewer than %d", len(p.Code), p.Slots, conf, th, count, limit)
		}
		if count == limit {
			longest++
		} else {
			shorter++
		}
	}
	if longest < 5000 || shorter < 5000 {
		t.Errorf("%d ended with the last step, %d ahead of it: that shows less", longest, shorter)
	}
}

// P24.6: a snapshot is taken by one step for each thread, and is there then; it is over by one more for each, and a release.
func TestSnapshotTakenAndOver(t *testing.T) {
	for threads := 1; threads <= 6; threads++ {
		p, conf := program(threads, 0), api.Config{Scheme: api.Quiet, Threshold: 2}
		th := with(thread(api.Micro{}), retired(2))
		th.Snap = nil
		th.Micro = scheme.Begin(p, conf, th)
		var counts []int64
		for i := range min(threads, 4) {
			holdReads(t, p, th.Micro, api.Place{Kind: api.PlCount, I: i}, true)
			counts = append(counts, int64(10+i))
			th = scheme.See(p, conf, 0, th, int64(10+i))
		}
		want := with(thread(api.Micro{}), retired(2))
		want.Snap, want.Old = counts, 2
		if !same(th, want) {
			t.Fatalf("of %d threads a snapshot leaves %+v, want %+v", threads, th, want)
		}
		th.Bag = retired(3)
		th = scheme.Quieted(conf, th)
		for i := range min(threads, 4) {
			holdReads(t, p, th.Micro, api.Place{Kind: api.PlCount, I: i}, true)
			th = scheme.See(p, conf, 0, th, int64(20+i))
		}
		want = with(want, retired(3)[2:])
		want.Micro, want.Snap, want.Old = api.Micro{}, nil, 0
		if th.Micro.Kind != api.MiRelease {
			t.Fatalf("of %d threads it is not over: %+v", threads, th)
		}
		holdRelease(t, conf, th, retired(2), want)
	}
}

// P24.6: an epoch is seen, each mark, it is made one more, and what was retired two epochs ahead goes.
func TestEpochSeenAndAdvanced(t *testing.T) {
	for threads := 1; threads <= 6; threads++ {
		p, conf := program(threads, 0), api.Config{Scheme: api.Epoch, Threshold: 3}
		bag := []api.Bagged{{Cell: 1, N: 4}, {Cell: 2, N: 5}, {Cell: 3}}
		th := with(thread(api.Micro{}), bag)
		th.Micro = scheme.Begin(p, conf, th)
		holdReads(t, p, th.Micro, api.Place{Kind: api.PlEpoch}, true)
		th = scheme.See(p, conf, 0, th, 5)
		for i := range min(threads, 4) {
			holdReads(t, p, th.Micro, api.Place{Kind: api.PlMark, I: i}, true)
			th = scheme.See(p, conf, 0, th, int64(i%2*11))
		}
		if !sameMicro(th.Micro, api.Micro{Kind: api.MiAdvance, N: 5}) {
			t.Fatalf("of %d threads behind all marks there is %+v", threads, th.Micro)
		}
		holdReads(t, p, th.Micro, api.Place{Kind: api.PlEpoch}, true)
		th = scheme.Advanced(th, true)
		want := with(thread(api.Micro{}), []api.Bagged{{Cell: 2, N: 5}, {Cell: 3, N: 5}})
		holdRelease(t, conf, th, []api.Bagged{{Cell: 1, N: 4}}, want)
	}
}
