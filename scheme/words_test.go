package scheme_test

import (
	"math/big"
	"slices"

	"warrener/api"
)

// What the page says, word by word, in other ways than the program goes: slots and threads as lists, numbers without bounds.

// placesOf are the places of all slots, by rising threads, of each by rising slots: of at most four threads, and of each at most two.
func placesOf(p api.Prog) []api.Place {
	var l []api.Place
	for t := range p.Code {
		for _, slot := range []int{0, 1} {
			if t < 4 && slot < p.Slots {
				l = append(l, api.Place{Kind: api.PlSlot, I: t, J: slot})
			}
		}
	}
	return l
}

// threadsOf are the numbers of the threads: at most four count.
func threadsOf(p api.Prog) []int {
	var l []int
	for t := range p.Code {
		if t < 4 {
			l = append(l, t)
		}
	}
	return l
}

// beginWants is P24.1.
func beginWants(p api.Prog, c api.Config, th api.Thread) api.Micro {
	fewer := big.NewInt(int64(len(th.Bag))).Cmp(big.NewInt(int64(c.Threshold))) < 0
	there := len(th.Snap) != 0
	if c.Scheme == 1 && !fewer && len(placesOf(p)) != 0 {
		return api.Micro{Kind: 2}
	}
	if c.Scheme == 1 && !fewer {
		return api.Micro{Kind: 3}
	}
	if c.Scheme == 2 {
		return api.Micro{Kind: 4}
	}
	if c.Scheme == 3 && !fewer && !there {
		return api.Micro{Kind: 7}
	}
	return api.Micro{}
}

// quietedWants is P24.1.
func quietedWants(c api.Config, th api.Thread) api.Thread {
	if c.Scheme == 3 && len(th.Snap) != 0 {
		th.Micro = api.Micro{Kind: 8}
	}
	return th
}

// readsWants is P24.2.
func readsWants(p api.Prog, m api.Micro) (api.Place, bool) {
	if m.Kind == 2 {
		for i, x := range placesOf(p) {
			if i == m.I {
				return x, true
			}
		}
	}
	if m.Kind == 4 || m.Kind == 6 {
		return api.Place{Kind: 6}, true
	}
	if slices.Contains(threadsOf(p), m.I) {
		switch m.Kind {
		case 5:
			return api.Place{Kind: 7, I: m.I}, true
		case 7, 8:
			return api.Place{Kind: 8, I: m.I}, true
		}
	}
	return api.Place{}, false
}

// further answers the number behind i, and whether that is behind the last of so many, as numbers without bounds.
func further(i int, many int) (int, bool) {
	n := new(big.Int).Add(big.NewInt(int64(i)), big.NewInt(1))
	if n.Cmp(big.NewInt(int64(many))) >= 0 {
		return 0, true
	}
	return int(n.Int64()), false
}

// behindSeeing answers the list, and n, as a list of its own.
func behindSeeing(l []int64, n int64) []int64 {
	return slices.Concat(l, []int64{n})
}

// agreesWants is chapter 22's: the mark of nobody within, or twice the epoch and 1, gone round.
func agreesWants(mark int64, e int64) bool {
	return mark == 0 || uint64(mark) == uint64(e)<<1|1
}

// passedWants is chapter 23's.
func passedWants(i int, me int, count int64, snap []int64) bool {
	if i == me {
		return true
	}
	for place, was := range snap {
		if place == i {
			return count != was
		}
	}
	return true
}

// seeWants is P24.3.
func seeWants(p api.Prog, c api.Config, t int, th api.Thread, n int64) api.Thread {
	switch th.Micro.Kind {
	case 2:
		return seeGuardWants(p, th, n)
	case 4:
		return seeDateWants(c, th, n)
	case 5:
		return seeMarkWants(p, th, n)
	case 7:
		return seeSnapshotWants(p, th, n)
	case 8:
		return seeCountWants(p, t, th, n)
	}
	return th
}

func seeGuardWants(p api.Prog, th api.Thread, n int64) api.Thread {
	i, behind := further(th.Micro.I, len(placesOf(p)))
	seen := behindSeeing(th.Micro.Seen, n)
	if behind {
		th.Micro = api.Micro{Kind: 3, I: 0, Seen: seen}
		return th
	}
	th.Micro.I, th.Micro.Seen = i, seen
	return th
}

func seeDateWants(c api.Config, th api.Thread, n int64) api.Thread {
	bag := slices.Clone(th.Bag)
	for i := range bag {
		if i == len(bag)-1 {
			bag[i] = api.Bagged{Cell: bag[i].Cell, Gen: bag[i].Gen, N: n}
		}
	}
	th.Bag = bag
	th.Micro = api.Micro{}
	if big.NewInt(int64(len(bag))).Cmp(big.NewInt(int64(c.Threshold))) >= 0 {
		th.Micro = api.Micro{Kind: 5, I: 0, N: n}
	}
	return th
}

func seeMarkWants(p api.Prog, th api.Thread, n int64) api.Thread {
	i, behind := further(th.Micro.I, len(threadsOf(p)))
	if !agreesWants(n, th.Micro.N) {
		th.Micro = api.Micro{}
		return th
	}
	if behind {
		th.Micro = api.Micro{Kind: 6, I: 0, N: th.Micro.N}
		return th
	}
	th.Micro.I = i
	return th
}

func seeSnapshotWants(p api.Prog, th api.Thread, n int64) api.Thread {
	i, behind := further(th.Micro.I, len(threadsOf(p)))
	seen := behindSeeing(th.Micro.Seen, n)
	if behind {
		th.Micro, th.Snap, th.Old = api.Micro{}, seen, len(th.Bag)
		return th
	}
	th.Micro.I, th.Micro.Seen = i, seen
	return th
}

func seeCountWants(p api.Prog, t int, th api.Thread, n int64) api.Thread {
	i, behind := further(th.Micro.I, len(threadsOf(p)))
	if !passedWants(th.Micro.I, t, n, th.Snap) {
		th.Micro = api.Micro{}
		return th
	}
	if behind {
		th.Micro = api.Micro{Kind: 3}
		return th
	}
	th.Micro.I = i
	return th
}

// advancedWants is P24.3.
func advancedWants(th api.Thread, done bool) api.Thread {
	if done {
		th.Micro = api.Micro{Kind: 3, N: int64(uint64(th.Micro.N) + 1)}
		return th
	}
	th.Micro = api.Micro{}
	return th
}

// releaseWants is P24.4.
func releaseWants(c api.Config, th api.Thread) ([]api.Bagged, api.Thread) {
	var gone, kept []api.Bagged
	for i, b := range th.Bag {
		if goesWants(c, th, i) {
			gone = append(gone, b)
		} else {
			kept = append(kept, b)
		}
	}
	th.Bag, th.Micro = kept, api.Micro{}
	if c.Scheme == 3 {
		th.Snap, th.Old = nil, 0
	}
	return gone, th
}

// goesWants tells whether the i-th of the bag goes, as chapters 21, 22 and 23 say.
func goesWants(c api.Config, th api.Thread, i int) bool {
	b := th.Bag[i]
	switch c.Scheme {
	case 1:
		return !slices.Contains(th.Micro.Seen, int64(b.Cell))
	case 2:
		return new(big.Int).Add(big.NewInt(b.N), big.NewInt(2)).Cmp(big.NewInt(th.Micro.N)) <= 0
	case 3:
		return i < th.Old
	}
	return false
}

// factorWants is P24.5.
func factorWants(p api.Prog, c api.Config) int {
	switch c.Scheme {
	case 1:
		return 2 + len(placesOf(p))
	case 2:
		return 4 + len(threadsOf(p))
	case 3:
		return 2 + len(threadsOf(p))
	}
	return 2
}

// boundWants is P24.5.
func boundWants(p api.Prog, c api.Config) int {
	return 2 * len(threadsOf(p)) * max(0, min(16, c.Fuel)) * factorWants(p, c)
}
