package scheme_test

import (
	"slices"
	"testing"

	"warrener/api"
	"warrener/scheme"
)

// micros are some that a thread may have had.
func micros() []api.Micro {
	l := []api.Micro{{}}
	for _, kind := range kinds {
		l = append(l, api.Micro{Kind: kind, I: 5, N: 6, Seen: []int64{7, 8}}, api.Micro{Kind: kind, I: -1, N: -1, Seen: []int64{0}})
	}
	return l
}

// bags are of none to more than may wait, and of none otherwise.
func bags() [][]api.Bagged {
	l := [][]api.Bagged{{}, retired(3)[:0], retired(3)[3:]}
	for count := range 11 {
		l = append(l, retired(count))
	}
	return l
}

// around are bags of none, of one less than so many, of just as many, and of more, where there are such.
func around(threshold int) [][]api.Bagged {
	l := [][]api.Bagged{nil, {}}
	for _, count := range []int{threshold - 1, threshold, threshold + 1, threshold + 5} {
		if count >= 0 && count < 20 {
			l = append(l, retired(count))
		}
	}
	return l
}

// snaps are none, and some.
func snaps() [][]int64 {
	return [][]int64{nil, {}, []int64{1, 2}[:0], []int64{1, 2}[2:], {0}, {0, 0}, {5, 6, 7}, {1, 2, 3, 4}, {most, least, 0, -1, 9}}
}

// P24.1: Begin, written out.
func TestBeginOneByOne(t *testing.T) {
	guards, release, date, snapshot := api.Micro{Kind: api.MiGuards}, api.Micro{Kind: api.MiRelease}, api.Micro{Kind: api.MiDate}, api.Micro{Kind: api.MiSnapshot}
	for _, x := range []struct {
		scheme, threshold, threads, slots, bag int
		snap                                   []int64
		want                                   api.Micro
	}{
		{api.Manual, 1, 2, 1, 1, nil, api.Micro{}}, {api.Manual, 1, 2, 1, 5, []int64{1, 2}, api.Micro{}}, {api.Manual, 1, 2, 0, 0, nil, api.Micro{}}, {api.Manual, 0, 0, 0, 0, nil, api.Micro{}},
		{api.Hazard, 2, 2, 1, 0, nil, api.Micro{}}, {api.Hazard, 2, 2, 1, 1, nil, api.Micro{}}, {api.Hazard, 2, 2, 1, 2, nil, guards}, {api.Hazard, 2, 2, 1, 3, nil, guards},
		{api.Hazard, 2, 2, 0, 0, nil, api.Micro{}}, {api.Hazard, 2, 2, 0, 1, nil, api.Micro{}}, {api.Hazard, 2, 2, 0, 2, nil, release}, {api.Hazard, 2, 2, -1, 3, nil, release},
		{api.Hazard, 1, 0, 2, 0, nil, api.Micro{}}, {api.Hazard, 1, 0, 2, 1, nil, release}, {api.Hazard, 1, 1, 1, 1, []int64{1, 2}, guards}, {api.Hazard, 1, 5, 3, 1, nil, guards},
		{api.Hazard, 0, 1, 1, 0, nil, guards}, {api.Hazard, -1, 1, 1, 0, nil, guards}, {api.Hazard, least, 1, 1, 0, nil, guards}, {api.Hazard, most, 1, 1, 9, nil, api.Micro{}},
		{api.Hazard, 0, 1, 0, 0, nil, release}, {api.Hazard, -1, 0, 1, 0, nil, release}, {api.Hazard, most, 1, 0, 9, nil, api.Micro{}},
		{api.Epoch, 2, 2, 1, 0, nil, date}, {api.Epoch, 2, 2, 1, 1, nil, date}, {api.Epoch, 2, 2, 1, 2, nil, date}, {api.Epoch, 2, 2, 1, 9, []int64{1}, date},
		{api.Epoch, most, 1, 0, 0, nil, date}, {api.Epoch, least, 0, 0, 0, nil, date},
		{api.Quiet, 2, 2, 1, 0, nil, api.Micro{}}, {api.Quiet, 2, 2, 1, 1, nil, api.Micro{}}, {api.Quiet, 2, 2, 1, 2, nil, snapshot}, {api.Quiet, 2, 2, 1, 3, nil, snapshot},
		{api.Quiet, 2, 2, 0, 2, []int64{}, snapshot}, {api.Quiet, 2, 2, 1, 2, []int64{0}, api.Micro{}}, {api.Quiet, 2, 2, 1, 3, []int64{1, 2}, api.Micro{}}, {api.Quiet, 2, 2, 1, 1, []int64{1, 2}, api.Micro{}},
		{api.Quiet, 0, 1, 0, 0, nil, snapshot}, {api.Quiet, -1, 1, 0, 0, nil, snapshot}, {api.Quiet, least, 1, 0, 0, nil, snapshot}, {api.Quiet, most, 1, 0, 9, nil, api.Micro{}},
		{-1, 1, 2, 1, 3, nil, api.Micro{}}, {4, 1, 2, 1, 3, nil, api.Micro{}}, {least, 1, 2, 1, 3, nil, api.Micro{}}, {most, 1, 2, 1, 3, nil, api.Micro{}},
	} {
		for _, m := range micros() {
			th := with(thread(m), retired(x.bag))
			th.Snap = x.snap
			holdBegin(t, program(x.threads, x.slots), api.Config{Scheme: x.scheme, Threshold: x.threshold}, th, x.want)
		}
	}
}

// P24.1: each scheme, each threshold, with bags about it, with slots and without, with a snapshot and without: the micro that the page says.
func TestBeginAll(t *testing.T) {
	for _, number := range schemes {
		for _, threshold := range thresholds {
			for _, bag := range around(threshold) {
				for _, snap := range snaps() {
					beginsAsTold(t, api.Config{Scheme: number, Threshold: threshold}, bag, snap)
				}
			}
		}
	}
}

// beginsAsTold holds Begin for programs with slots and without.
func beginsAsTold(t *testing.T, c api.Config, bag []api.Bagged, snap []int64) {
	t.Helper()
	for threads := range 6 {
		for _, slots := range []int{0, 1, 2, 3, -1, least, most} {
			p, th := program(threads, slots), with(thread(api.Micro{Kind: api.MiMarks, I: 3, N: 4, Seen: []int64{5}}), bag)
			th.Snap = snap
			holdBegin(t, p, c, th, beginWants(p, c, th))
		}
	}
}

// P24.1: which micro a thread has had, and all its other parts but the bag and the snapshot, do not matter; nor do what a program has beside its threads and slots, and what a config has beside its scheme and threshold.
func TestBeginElse(t *testing.T) {
	c := chance(1)
	for range 3000 {
		p, conf, th := c.prog(), c.config(), c.thread()
		want := beginWants(p, conf, th)
		holdBegin(t, p, conf, th, want)
		other := c.thread()
		other.Bag, other.Snap = th.Bag, th.Snap
		p.Roots, p.Cells = c.next(9), c.next(9)
		conf.Order, conf.Fuel, conf.Depth = c.next(9), c.next(99), c.next(9)
		holdBegin(t, p, conf, other, want)
	}
}

// P4: what Begin does not name is zero: a micro that begins has seen nothing, has number 0, and is at its beginning.
func TestBeginZero(t *testing.T) {
	for _, number := range schemes {
		for _, m := range micros() {
			th := thread(m)
			th.Snap = nil
			got := scheme.Begin(program(2, 1), api.Config{Scheme: number, Threshold: 1}, th)
			if got.I != 0 || got.N != 0 || len(got.Seen) != 0 {
				t.Fatalf("Begin with scheme %d of a thread with %+v = %+v", number, m, got)
			}
		}
	}
}

// P24.1: Quieted, for each scheme, with a snapshot and without; all else of the thread is as it was.
func TestQuietedAll(t *testing.T) {
	for _, number := range schemes {
		for _, snap := range snaps() {
			for _, m := range micros() {
				th := thread(m)
				th.Snap = snap
				want := th
				if number == api.Quiet && len(snap) > 0 {
					want.Micro = api.Micro{Kind: api.MiCounts}
				}
				holdQuieted(t, api.Config{Scheme: number, Threshold: 1}, th, want)
			}
		}
	}
}

// P24.1: Quieted asks for no bag and for no threshold.
func TestQuietedElse(t *testing.T) {
	for _, bag := range bags() {
		for _, threshold := range thresholds {
			th := with(thread(api.Micro{Kind: api.MiDate, I: 1, N: 2, Seen: []int64{3}}), bag)
			want := th
			want.Micro = api.Micro{Kind: api.MiCounts}
			holdQuieted(t, api.Config{Scheme: api.Quiet, Threshold: threshold, Order: api.TSO, Fuel: 3, Depth: 2}, th, want)
			holdQuieted(t, api.Config{Scheme: api.Epoch, Threshold: threshold}, th, th)
			th.Snap = nil
			holdQuieted(t, api.Config{Scheme: api.Quiet, Threshold: threshold}, th, th)
		}
	}
}

// P24.5: Factor, written out.
func TestFactorOneByOne(t *testing.T) {
	for _, x := range []struct{ scheme, threads, slots, want int }{
		{api.Manual, 0, 0, 2}, {api.Manual, 2, 2, 2}, {api.Manual, 4, 2, 2},
		{-1, 4, 2, 2}, {4, 4, 2, 2}, {least, 4, 2, 2}, {most, 4, 2, 2},
		{api.Hazard, 0, 2, 2}, {api.Hazard, 1, 0, 2}, {api.Hazard, 1, 1, 3}, {api.Hazard, 1, 2, 4}, {api.Hazard, 2, 1, 4}, {api.Hazard, 3, 2, 8}, {api.Hazard, 4, 2, 10},
		{api.Hazard, 4, 3, 10}, {api.Hazard, 5, 2, 10}, {api.Hazard, 9, 9, 10}, {api.Hazard, 4, -1, 2}, {api.Hazard, 4, most, 10}, {api.Hazard, 4, least, 2}, {api.Hazard, 9, 1, 6},
		{api.Epoch, 0, 2, 4}, {api.Epoch, 1, 2, 5}, {api.Epoch, 2, 0, 6}, {api.Epoch, 4, 2, 8}, {api.Epoch, 5, 2, 8}, {api.Epoch, 99, -1, 8},
		{api.Quiet, 0, 2, 2}, {api.Quiet, 1, 2, 3}, {api.Quiet, 2, 0, 4}, {api.Quiet, 4, 2, 6}, {api.Quiet, 5, 2, 6}, {api.Quiet, 99, -1, 6},
	} {
		if got := scheme.Factor(program(x.threads, x.slots), api.Config{Scheme: x.scheme, Threshold: 1, Fuel: 1}); got != x.want {
			t.Errorf("Factor of scheme %d, %d threads, %d slots = %d, want %d", x.scheme, x.threads, x.slots, got, x.want)
		}
	}
}

// P24.5: Bound, written out.
func TestBoundOneByOne(t *testing.T) {
	for _, x := range []struct{ scheme, threads, slots, fuel, want int }{
		{api.Manual, 0, 0, 16, 0}, {api.Manual, 1, 0, 1, 4}, {api.Manual, 1, 0, 0, 0}, {api.Manual, 2, 2, 3, 24}, {api.Manual, 4, 2, 16, 256}, {api.Manual, 5, 2, 17, 256},
		{-1, 2, 2, 3, 24}, {4, 2, 2, 3, 24}, {most, 2, 2, 3, 24},
		{api.Hazard, 2, 1, 2, 32}, {api.Hazard, 4, 2, 16, 1280}, {api.Hazard, 9, 9, 99, 1280}, {api.Hazard, 4, 2, -1, 0}, {api.Hazard, 4, 2, least, 0}, {api.Hazard, 4, 2, most, 1280}, {api.Hazard, 0, 2, 5, 0},
		{api.Epoch, 1, 2, 1, 10}, {api.Epoch, 4, 2, 16, 1024}, {api.Epoch, 7, 2, 15, 960}, {api.Epoch, 0, 0, 3, 0},
		{api.Quiet, 1, 2, 1, 6}, {api.Quiet, 4, 2, 16, 768}, {api.Quiet, 3, 0, 16, 480}, {api.Quiet, 0, 0, 3, 0},
	} {
		if got := scheme.Bound(program(x.threads, x.slots), api.Config{Scheme: x.scheme, Threshold: 1, Fuel: x.fuel}); got != x.want {
			t.Errorf("Bound of scheme %d, %d threads, %d slots, fuel %d = %d, want %d", x.scheme, x.threads, x.slots, x.fuel, got, x.want)
		}
	}
}

// P24.5: each scheme, threads from none to more than may be, slots and fuel of all kinds.
func TestFactorAll(t *testing.T) {
	for _, number := range schemes {
		for threads := range 8 {
			for _, slots := range eachSlots {
				for _, fuel := range fuels {
					p, c := program(threads, slots), api.Config{Scheme: number, Fuel: fuel}
					if got, want := scheme.Factor(p, c), factorWants(p, c); got != want {
						t.Fatalf("Factor of scheme %d, %d threads, %d slots = %d, want %d", number, threads, slots, got, want)
					}
					if got, want := scheme.Bound(p, c), boundWants(p, c); got != want {
						t.Fatalf("Bound of scheme %d, %d threads, %d slots, fuel %d = %d, want %d", number, threads, slots, fuel, got, want)
					}
				}
			}
		}
	}
}

// P24.5: Order, Threshold and Depth, roots, cells and instructions do not matter.
func TestFactorElse(t *testing.T) {
	c := chance(5)
	for range 2000 {
		p, conf := c.prog(), c.config()
		factor, bound := scheme.Factor(p, conf), scheme.Bound(p, conf)
		p.Roots, p.Cells, p.Code = c.next(9), c.next(9), slices.Clone(p.Code)
		for i := range p.Code {
			p.Code[i] = make([]api.Instr, c.next(20))
		}
		conf.Order, conf.Threshold, conf.Depth = c.next(9), c.next(99)-9, c.next(9)
		if scheme.Factor(p, conf) != factor || scheme.Bound(p, conf) != bound {
			t.Fatalf("of %d threads, %d slots, %+v: Factor %d was %d, Bound %d was %d", len(p.Code), p.Slots, conf, scheme.Factor(p, conf), factor, scheme.Bound(p, conf), bound)
		}
	}
}
