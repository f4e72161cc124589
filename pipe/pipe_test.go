package pipe_test

import (
	"math"
	"slices"
	"testing"

	"warrener/pipe"
)

// rooms are what may be asked for, and the room that is had: ordinary ones, both bounds and what is about them, those that are some number from 0 to 256 when they are cut to fewer bits, and both ends.
var rooms = []struct{ asked, had int }{
	{0, 0}, {1, 1}, {2, 2}, {3, 3}, {5, 5}, {7, 7}, {8, 8}, {9, 9}, {63, 63}, {64, 64}, {65, 65}, {100, 100},
	{127, 127}, {128, 128}, {254, 254}, {255, 255}, {256, 256}, {257, 256}, {258, 256}, {511, 256}, {512, 256}, {1 << 20, 256},
	{-1, 0}, {-2, 0}, {-255, 0}, {-256, 0}, {-257, 0}, {-1 << 31, 0}, {-1<<32 + 5, 0},
	{1<<16 + 5, 256}, {1 << 31, 256}, {1<<32 + 5, 256}, {1<<62 + 7, 256},
	{math.MinInt, 0}, {math.MinInt + 1, 0}, {math.MinInt + 5, 0}, {math.MaxInt, 256}, {math.MaxInt - 1, 256},
}

// numbers are what may be put: ordinary ones, those that fewer bits can't hold, and both ends.
var numbers = []int{
	0, 1, -1, 7, 8, 255, 256, 257, -256, 1<<16 + 3, 1<<31 - 1, 1 << 31, -1 << 31, -1<<31 - 1, 1<<32 + 9, 1 << 62,
	math.MinInt, math.MinInt + 1, math.MaxInt - 1, math.MaxInt,
}

// strangers are pipes that New did not make, each of them new.
func strangers() []*pipe.Pipe {
	return []*pipe.Pipe{nil, {}, new(pipe.Pipe), (*pipe.Pipe)(nil).Clone(), (&pipe.Pipe{}).Clone()}
}

// model is a pipe by the chapter's words: the numbers that wait, and the room in all.
type model struct {
	wait []int
	room int
}

func (m *model) put(n int) bool {
	if len(m.wait) == m.room {
		return false
	}
	m.wait = append(slices.Clone(m.wait), n)
	return true
}

func (m *model) take() (int, bool) {
	if len(m.wait) == 0 {
		return 0, false
	}
	n := m.wait[0]
	m.wait = slices.Clone(m.wait[1:])
	return n, true
}

func (m *model) clone() *model {
	return &model{wait: slices.Clone(m.wait), room: m.room}
}

// chance is a row of numbers without a short beat.
type chance uint64

func (c *chance) next(below int) int {
	*c = *c*6364136223846793005 + 1442695040888963407
	return int(uint64(*c) >> 33 % uint64(below))
}

// with is a pipe of that room, and its model, into which the numbers went.
func with(t *testing.T, room int, l ...int) (*pipe.Pipe, *model) {
	t.Helper()
	p, m := pipe.New(room), &model{room: min(max(room, 0), 256)}
	for _, n := range l {
		holdPut(t, p, m, n)
	}
	return p, m
}

// counted are the first numbers of a row that goes through numbers again and again, each time with others.
func counted(n int) []int {
	l := make([]int, n)
	for i := range l {
		l[i] = numbers[i%len(numbers)] + i/len(numbers)
	}
	return l
}

// holdState looks at everything that a pipe tells without being changed, twice, as telling changes nothing.
func holdState(t *testing.T, p *pipe.Pipe, m *model) {
	t.Helper()
	for range 2 {
		if got := p.Len(); got != len(m.wait) {
			t.Fatalf("Len() = %d, want %d", got, len(m.wait))
		}
		if got := p.Room(); got != m.room-len(m.wait) {
			t.Fatalf("Room() = %d, want %d", got, m.room-len(m.wait))
		}
		if got := p.All(); !slices.Equal(got, m.wait) {
			t.Fatalf("All() = %v, want %v", got, m.wait)
		}
	}
}

func holdPut(t *testing.T, p *pipe.Pipe, m *model, n int) {
	t.Helper()
	if got, want := p.Put(n), m.put(n); got != want {
		t.Fatalf("Put(%d) = %v, want %v, with %d of %d", n, got, want, len(m.wait), m.room)
	}
	holdCounts(t, p, m)
}

func holdTake(t *testing.T, p *pipe.Pipe, m *model) {
	t.Helper()
	n, ok := p.Take()
	if want, wantOK := m.take(); n != want || ok != wantOK {
		t.Fatalf("Take() = %d, %v, want %d, %v", n, ok, want, wantOK)
	}
	holdCounts(t, p, m)
}

// holdCounts looks at Len and Room alone, so that All does not stand between any two calls.
func holdCounts(t *testing.T, p *pipe.Pipe, m *model) {
	t.Helper()
	if p.Len() != len(m.wait) || p.Room() != m.room-len(m.wait) {
		t.Fatalf("Len() = %d, Room() = %d, want %d of %d", p.Len(), p.Room(), len(m.wait), m.room)
	}
}

// holdEmptied takes all out, and one more.
func holdEmptied(t *testing.T, p *pipe.Pipe, m *model) {
	t.Helper()
	for range m.room + 1 {
		holdTake(t, p, m)
	}
	holdState(t, p, m)
}

// holdStranger looks at every call of a pipe that New did not make, in an order in which none helps the next one.
func holdStranger(t *testing.T, p *pipe.Pipe) {
	t.Helper()
	for _, put := range []int{7, 0, -1, math.MaxInt} {
		if p.Put(put) {
			t.Errorf("Put(%d) = true", put)
		}
		if n, ok := p.Take(); n != 0 || ok {
			t.Errorf("Take() = %d, %v", n, ok)
		}
		if p.Len() != 0 || p.Room() != 0 {
			t.Errorf("Len() = %d, Room() = %d", p.Len(), p.Room())
		}
		if l := p.All(); len(l) != 0 {
			t.Errorf("All() = %v", l)
		}
		if c := p.Clone(); c != nil {
			t.Errorf("Clone() = %v", c)
		}
	}
}

// P5.1: New is empty, of the room that was asked for, or the nearest to it.
func TestNew(t *testing.T) {
	for _, r := range rooms {
		p := pipe.New(r.asked)
		if p == nil {
			t.Fatalf("New(%d) = nil", r.asked)
		}
		if p.Room() != r.had || p.Len() != 0 || len(p.All()) != 0 {
			t.Errorf("New(%d): Room() = %d, want %d, Len() = %d", r.asked, p.Room(), r.had, p.Len())
		}
		if n, ok := p.Take(); n != 0 || ok {
			t.Errorf("New(%d): Take() = %d, %v", r.asked, n, ok)
		}
	}
}

// P5.1: every room is had in full, and no more than that; then all comes out.
func TestRoom(t *testing.T) {
	for _, r := range rooms {
		p := pipe.New(r.asked)
		m := &model{room: r.had}
		for _, n := range counted(r.had + 3) {
			holdPut(t, p, m, n)
		}
		if len(m.wait) != r.had {
			t.Fatalf("room %d: %d wait", r.asked, len(m.wait))
		}
		holdState(t, p, m)
		holdEmptied(t, p, m)
	}
	for room := range 257 {
		p, m := with(t, room, counted(room)...)
		holdPut(t, p, m, 5)
		holdState(t, p, m)
	}
}

// P5.1: the chapter's example: room 1, Put 7, Put 8 is false.
func TestExample(t *testing.T) {
	p := pipe.New(1)
	if !p.Put(7) || p.Put(8) {
		t.Fatal("Put 7, Put 8")
	}
	if n, ok := p.Take(); n != 7 || !ok {
		t.Fatalf("Take() = %d, %v", n, ok)
	}
	if n, ok := p.Take(); n != 0 || ok {
		t.Fatalf("Take() of none = %d, %v", n, ok)
	}
}

// P5.1: Put has each number come last, whatever it is; 0 that waits is told apart from none.
func TestPut(t *testing.T) {
	for _, n := range numbers {
		p, m := with(t, 3, n)
		holdState(t, p, m)
		holdPut(t, p, m, 4)
		holdPut(t, p, m, n)
		holdState(t, p, m)
		holdEmptied(t, p, m)
	}
	p, m := with(t, 256, numbers...)
	holdState(t, p, m)
	holdEmptied(t, p, m)
}

// P5.1: Put of a full pipe is false, and changes nothing, however often it is tried.
func TestPutFull(t *testing.T) {
	for _, room := range []int{0, 1, 2, 5, 255, 256, 257, -1, math.MinInt, math.MaxInt} {
		p, m := with(t, room, counted(min(max(room, 0), 256))...)
		for _, n := range numbers {
			if p.Put(n) {
				t.Fatalf("room %d: Put(%d) = true", room, n)
			}
			holdState(t, p, m)
		}
		holdEmptied(t, p, m)
	}
}

// P5.1: Take of an empty pipe is 0 and false, changes nothing, and hinders nothing that is put later.
func TestTakeEmpty(t *testing.T) {
	for _, r := range rooms {
		p, m := with(t, r.asked)
		for range 3 {
			holdTake(t, p, m)
			holdState(t, p, m)
		}
		holdPut(t, p, m, 9)
		holdTake(t, p, m)
		holdTake(t, p, m)
		holdPut(t, p, m, 0)
		holdTake(t, p, m)
		holdState(t, p, m)
	}
}

// P5.1: what went gives room again, to the full one and no more.
func TestRoomAgain(t *testing.T) {
	for _, room := range []int{1, 2, 3, 8, 255, 256} {
		p, m := with(t, room, counted(room)...)
		for _, n := range numbers {
			holdPut(t, p, m, n)
			holdTake(t, p, m)
			holdPut(t, p, m, n)
			holdPut(t, p, m, n)
			holdState(t, p, m)
		}
		holdEmptied(t, p, m)
	}
}

// P5.1: All is the first first, of an empty one, each part-filled one and a full one, wherever the row begins; it changes nothing.
func TestAll(t *testing.T) {
	for _, room := range []int{0, 1, 2, 3, 8, 255, 256} {
		for _, gone := range []int{0, 1, 2, room / 2, room} {
			p, m := with(t, room)
			for range min(gone, room) {
				holdPut(t, p, m, -5)
				holdTake(t, p, m)
			}
			for _, n := range counted(room + 1) {
				holdState(t, p, m)
				holdPut(t, p, m, n)
			}
			holdState(t, p, m)
			holdEmptied(t, p, m)
		}
	}
}

// P5.1 and P2: what becomes of a list that was answered, to its room's end, changes neither the pipe, nor another list, nor a later one.
func TestAllMemory(t *testing.T) {
	for _, count := range []int{0, 1, 2, 5, 8} {
		p, m := with(t, 8, counted(count)...)
		first, second := p.All(), p.All()
		for i := range second {
			second[i] = -7
		}
		_ = append(second[:0], make([]int, cap(second))...)
		_ = append(second, 1, 2, 3)
		if !slices.Equal(first, m.wait) {
			t.Errorf("All() = %v, want %v", first, m.wait)
		}
		holdState(t, p, m)
		kept := slices.Clone(p.All())
		third := p.All()
		holdPut(t, p, m, 40)
		holdTake(t, p, m)
		holdPut(t, p, m, 41)
		if !slices.Equal(third, kept) {
			t.Errorf("a list of ahead is %v, and was %v", third, kept)
		}
		holdEmptied(t, p, m)
	}
}

// P5.1: a clone is of the same room and numbers, and stands as the pipe stood, wherever the row begins.
func TestClone(t *testing.T) {
	for _, r := range rooms {
		for _, count := range []int{0, 1, 2, r.had / 2, r.had - 1, r.had} {
			p, m := with(t, r.asked)
			for _, n := range counted(r.had / 3) {
				holdPut(t, p, m, n)
				holdTake(t, p, m)
			}
			for _, n := range counted(max(count, 0)) {
				holdPut(t, p, m, n)
			}
			c := p.Clone()
			if c == nil || c == p {
				t.Fatalf("room %d, %d numbers: Clone() = %p of %p", r.asked, count, c, p)
			}
			holdState(t, p, m)
			holdState(t, c, m.clone())
			holdEmptied(t, c, m.clone())
			holdState(t, p, m)
		}
	}
}

// P5.1: a clone goes on apart from its origin, in both directions, as does a clone of a clone.
func TestCloneApart(t *testing.T) {
	for _, count := range []int{0, 1, 2, 3, 4} {
		p, m := with(t, 4, counted(count)...)
		c, cm := p.Clone(), m.clone()
		d, dm := c.Clone(), cm.clone()
		for i, n := range numbers {
			holdPut(t, p, m, n)
			holdState(t, c, cm)
			holdState(t, d, dm)
			holdTake(t, c, cm)
			holdPut(t, c, cm, -n)
			holdState(t, p, m)
			holdState(t, d, dm)
			if i%3 == 0 {
				holdTake(t, p, m)
				holdTake(t, d, dm)
			}
			holdPut(t, d, dm, n+i)
			holdState(t, p, m)
			holdState(t, c, cm)
		}
		holdEmptied(t, c, cm)
		holdState(t, p, m)
		holdState(t, d, dm)
		holdEmptied(t, p, m)
		holdState(t, d, dm)
		holdEmptied(t, d, dm)
	}
}

// P5.1: a clone of an empty one is empty, that of a full one full; each has the whole room of its own.
func TestCloneEnds(t *testing.T) {
	for _, room := range []int{0, 1, 2, 255, 256} {
		empty, em := with(t, room)
		c, cm := empty.Clone(), em.clone()
		for _, n := range counted(room + 1) {
			holdPut(t, c, cm, n)
		}
		holdState(t, c, cm)
		holdState(t, empty, em)
		full, fm := c.Clone(), cm.clone()
		holdPut(t, full, fm, 3)
		holdEmptied(t, c, cm)
		holdState(t, full, fm)
		holdEmptied(t, full, fm)
	}
}

// P5.1: nil, and a pipe that New did not make, take and give nothing.
func TestStranger(t *testing.T) {
	for _, p := range strangers() {
		holdStranger(t, p)
	}
}

// P5.1: each call of a stranger stands by itself, too, with none ahead of it.
func TestStrangerFirst(t *testing.T) {
	calls := []func(p *pipe.Pipe) bool{
		func(p *pipe.Pipe) bool { return !p.Put(7) },
		func(p *pipe.Pipe) bool { n, ok := p.Take(); return n == 0 && !ok },
		func(p *pipe.Pipe) bool { return p.Len() == 0 },
		func(p *pipe.Pipe) bool { return p.Room() == 0 },
		func(p *pipe.Pipe) bool { return len(p.All()) == 0 },
		func(p *pipe.Pipe) bool { return p.Clone() == nil },
	}
	for i, call := range calls {
		for j, p := range strangers() {
			if !call(p) {
				t.Errorf("call %d of stranger %d", i, j)
			}
			holdStranger(t, p)
		}
	}
}

// P5.2: what came in goes out, in order, each once, while Puts and Takes come in any order, so that the row goes round more often than it has room.
func TestThrough(t *testing.T) {
	for _, room := range []int{0, 1, 2, 3, 7, 8, 64, 255, 256, 257, -1} {
		p, m := with(t, room)
		c := chance(room)
		var came, went []int
		for i := range 4000 {
			lean := i / 500 % 2 // for a while more come in than go out, then it is the other way round
			if c.next(5) < 2+lean {
				n := i*1000003 - 77
				before := len(m.wait)
				holdPut(t, p, m, n)
				if len(m.wait) > before {
					came = append(came, n)
				}
				continue
			}
			before := slices.Clone(m.wait)
			holdTake(t, p, m)
			if len(before) > 0 {
				went = append(went, before[0])
			}
		}
		if room > 0 && len(went) <= room {
			t.Fatalf("room %d: the row did not go round: %d went", room, len(went))
		}
		if !slices.Equal(came, append(went, m.wait...)) {
			t.Fatalf("room %d: what came in did not go out", room)
		}
		holdState(t, p, m)
		holdEmptied(t, p, m)
	}
}

// P5.2: by what the pipe tells alone: the numbers whose Put was true are those that Take gives, and All what is left.
func TestInOut(t *testing.T) {
	for seed := range 60 {
		c := chance(seed)
		p := pipe.New(c.next(12))
		var came, went []int
		for range 300 {
			n := numbers[c.next(len(numbers))]
			if c.next(2) == 0 && p.Put(n) {
				came = append(came, n)
			}
			if c.next(2) == 0 {
				if n, ok := p.Take(); ok {
					went = append(went, n)
				}
			}
			if !slices.Equal(append(slices.Clone(went), p.All()...), came) {
				t.Fatalf("seed %d: %v went, %v wait, %v came", seed, went, p.All(), came)
			}
		}
	}
}

// P5.2 and P5.1: pipes and their clones, many of them, called in any order: each does as if it were alone.
func TestMany(t *testing.T) {
	c := chance(17)
	var ps []*pipe.Pipe
	var ms []*model
	for room := range 6 {
		p, m := with(t, room)
		ps, ms = append(ps, p), append(ms, m)
	}
	for i := range 6000 {
		at := c.next(len(ps))
		switch c.next(8) {
		case 0, 1, 2:
			holdPut(t, ps[at], ms[at], i)
		case 3, 4, 5:
			holdTake(t, ps[at], ms[at])
		case 6:
			holdState(t, ps[at], ms[at])
		case 7:
			other := c.next(len(ps))
			ps[other], ms[other] = ps[at].Clone(), ms[at].clone()
		}
	}
	for i := range ps {
		holdState(t, ps[i], ms[i])
	}
}

// P5.1 and P3: what a pipe answers hangs on what it was told, not on another pipe that is told something else.
func TestNothingKept(t *testing.T) {
	for range 3 {
		p, m := with(t, 2, 1, 2)
		q, k := with(t, 2)
		holdState(t, p, m)
		holdState(t, q, k)
		holdPut(t, q, k, 9)
		holdTake(t, p, m)
		holdState(t, p, m)
		holdState(t, q, k)
	}
}
