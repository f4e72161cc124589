package arena_test

import (
	"fmt"
	"math"
	"reflect"
	"slices"
	"sync"
	"testing"

	"warrener/api"
	"warrener/arena"
)

const (
	least = math.MinInt
	most  = math.MaxInt
)

// sizes are how many cells may be asked for, and how many are had: all that may be, what is about the bounds, those that are some number from 0 to 6 when they are cut to fewer bits, and both ends.
var sizes = []struct{ asked, had int }{
	{0, 0}, {1, 1}, {2, 2}, {3, 3}, {4, 4}, {5, 5}, {6, 6}, {7, 6}, {8, 6}, {100, 6}, {255, 6}, {256, 6}, {259, 6}, {1<<16 + 2, 6}, {1 << 31, 6}, {1<<32 + 3, 6}, {most - 1, 6}, {most, 6},
	{-1, 0}, {-2, 0}, {-6, 0}, {-7, 0}, {-253, 0}, {-1 << 31, 0}, {-1<<32 + 3, 0}, {least + 3, 0}, {least + 1, 0}, {least, 0},
}

// owners are what By and Pc may be: any number.
var owners = []int{0, 1, -1, 2, 3, 15, 16, 255, 256, 1 << 31, 1<<32 + 1, -1 << 31, most - 1, most, least + 1, least}

// lost are cells that no arena has.
var lost = []int{0, -1, -2, -6, -7, 7, 8, 255, 256, 257, 258, 1<<16 + 1, 1 << 31, 1<<31 + 2, 1<<32 + 1, 1<<32 + 2, -1 << 32, -1<<32 + 1, most - 1, most, least, least + 1, least + 2}

// noFields are fields that no cell has.
var noFields = []int{-1, 2, 3, -2, 7, 255, 256, 257, 1 << 31, 1 << 32, 1<<32 + 1, -1 << 32, -1<<32 + 1, most - 1, most, least, least + 1}

// words are what may be stored: plain ones, pointers, and those that no call makes.
var words = []api.Word{
	{}, {N: 1}, {N: -1}, {N: 7}, {N: math.MinInt64}, {N: math.MaxInt64}, {N: 1 << 40},
	{N: 1, Cell: 1, Gen: 1}, {N: 2, Cell: 2, Gen: 1}, {N: 6, Cell: 6, Gen: 3}, {N: 1, Cell: 1},
	{N: 9, Cell: 1, Gen: 2}, {N: 3, Cell: -1, Gen: 4}, {Gen: 5}, {Cell: most, Gen: least}, {N: math.MinInt64, Cell: least, Gen: most},
}

// state is what an arena tells of itself: the cells, and the row.
type state struct {
	cells []api.Cell
	row   []int
}

// model is an arena by the chapter's words: lists that are copied whole ahead of each change.
type model struct {
	now state
	was []state
}

func (s state) copied() state {
	return state{cells: slices.Clone(s.cells), row: slices.Clone(s.row)}
}

func newModel(cells int) *model {
	m := &model{}
	for i := range min(max(cells, 0), 6) {
		m.now.cells = append(m.now.cells, api.Cell{})
		m.now.row = append(m.now.row, i+1)
	}
	return m
}

func (m *model) cloned() *model {
	c := &model{now: m.now.copied()}
	for _, s := range m.was {
		c.was = append(c.was, s.copied())
	}
	return c
}

// keep has what is now be there to come back to.
func (m *model) keep() {
	m.was = append(m.was, m.now.copied())
}

// is tells whether there is such a cell, and it has one of these states.
func (m *model) is(cell int, of ...int) bool {
	return cell > 0 && cell <= len(m.now.cells) && slices.Contains(of, m.now.cells[cell-1].Status)
}

func (m *model) alloc(by int, pc int) (api.Word, bool) {
	if len(m.now.row) == 0 {
		return api.Word{}, false
	}
	m.keep()
	cell := m.now.row[0]
	m.now.row = m.now.row[1:]
	c := &m.now.cells[cell-1]
	*c = api.Cell{Status: 1, Gen: c.Gen + 1, By: by, Pc: pc}
	return api.Word{N: int64(cell), Cell: cell, Gen: c.Gen}, true
}

func (m *model) free(cell int) bool {
	if !m.is(cell, 1, 2) {
		return false
	}
	m.keep()
	c := &m.now.cells[cell-1]
	*c = api.Cell{Gen: c.Gen}
	m.now.row = append([]int{cell}, m.now.row...)
	return true
}

func (m *model) retire(cell int) bool {
	if !m.is(cell, 1) {
		return false
	}
	m.keep()
	m.now.cells[cell-1].Status = 2
	return true
}

func (m *model) find(w api.Word) int {
	switch {
	case w.Cell < 1 || w.Cell > len(m.now.cells):
		return 0
	case m.is(w.Cell, 0) || m.now.cells[w.Cell-1].Gen != w.Gen:
		return 1
	case m.is(w.Cell, 1):
		return 2
	}
	return 3
}

func (m *model) load(cell int, f int) (api.Word, bool) {
	if !m.is(cell, 0, 1, 2) || f != 0 && f != 1 {
		return api.Word{}, false
	}
	return m.now.cells[cell-1].F[f], true
}

func (m *model) store(cell int, f int, w api.Word) bool {
	if !m.is(cell, 0, 1, 2) || f != 0 && f != 1 {
		return false
	}
	m.keep()
	m.now.cells[cell-1].F[f] = w
	return true
}

func (m *model) undo(mark int) bool {
	if mark < 0 || mark > len(m.was) {
		return false
	}
	if mark < len(m.was) {
		m.now = m.was[mark].copied()
		m.was = m.was[:mark]
	}
	return true
}

// chance is a row of numbers without a short beat.
type chance uint64

func (c *chance) next(below int) int {
	*c = *c*6364136223846793005 + 1442695040888963407
	return int(uint64(*c) >> 33 % uint64(below))
}

// pair is an arena and its model, to which the same is done. trail is what was done, for those who look for a fault.
type pair struct {
	t     *testing.T
	a     *arena.Arena
	m     *model
	trail []string
}

func newPair(t *testing.T, cells int) *pair {
	t.Helper()
	p := &pair{t: t, a: arena.New(cells), m: newModel(cells)}
	if p.a == nil {
		t.Fatalf("New(%d) = nil", cells)
	}
	p.say("New(%d)", cells)
	p.hold()
	return p
}

func (p *pair) say(form string, of ...any) {
	p.trail = append(p.trail, fmt.Sprintf(form, of...))
}

func (p *pair) fail(form string, of ...any) {
	p.t.Helper()
	p.t.Fatalf("%s; behind %v", fmt.Sprintf(form, of...), p.trail[max(0, len(p.trail)-40):])
}

// hold looks at all that the arena tells of itself, twice, as telling changes nothing, and that a cell is in the row just if it is free.
func (p *pair) hold() {
	p.t.Helper()
	for range 2 {
		cells, row := p.a.Cells(), p.a.List()
		if !slices.Equal(cells, p.m.now.cells) {
			p.fail("Cells() = %v, want %v", cells, p.m.now.cells)
		}
		if !slices.Equal(row, p.m.now.row) {
			p.fail("List() = %v, want %v", row, p.m.now.row)
		}
		if mark := p.a.Mark(); mark != len(p.m.was) {
			p.fail("Mark() = %d, want %d", mark, len(p.m.was))
		}
		holdRow(p.t, cells, row)
	}
}

// holdRow: a cell is in the row just if it is free, and once.
func holdRow(t *testing.T, cells []api.Cell, row []int) {
	t.Helper()
	times := map[int]int{}
	for _, cell := range row {
		times[cell]++
	}
	free := 0
	for i, c := range cells {
		want := 0
		if c.Status == api.Free {
			want, free = 1, free+1
		}
		if times[i+1] != want {
			t.Fatalf("cell %d is %v, and stands %d times in the row %v", i+1, c, times[i+1], row)
		}
	}
	if free != len(row) {
		t.Fatalf("%d cells are free, the row is %v", free, row)
	}
}

func (p *pair) alloc(by int, pc int) api.Word {
	p.t.Helper()
	p.say("Alloc(%d, %d)", by, pc)
	w, ok := p.a.Alloc(by, pc)
	if want, wantOK := p.m.alloc(by, pc); w != want || ok != wantOK {
		p.fail("= %v, %v, want %v, %v", w, ok, want, wantOK)
	}
	p.hold()
	return w
}

func (p *pair) free(cell int) bool {
	p.t.Helper()
	p.say("Free(%d)", cell)
	got := p.a.Free(cell)
	if want := p.m.free(cell); got != want {
		p.fail("= %v, want %v", got, want)
	}
	p.hold()
	return got
}

func (p *pair) retire(cell int) bool {
	p.t.Helper()
	p.say("Retire(%d)", cell)
	got := p.a.Retire(cell)
	if want := p.m.retire(cell); got != want {
		p.fail("= %v, want %v", got, want)
	}
	p.hold()
	return got
}

func (p *pair) find(w api.Word) int {
	p.t.Helper()
	got := p.a.Find(w)
	if want := p.m.find(w); got != want {
		p.fail("Find(%v) = %d, want %d", w, got, want)
	}
	p.hold()
	return got
}

func (p *pair) load(cell int, f int) {
	p.t.Helper()
	got, ok := p.a.Load(cell, f)
	if want, wantOK := p.m.load(cell, f); got != want || ok != wantOK {
		p.fail("Load(%d, %d) = %v, %v, want %v, %v", cell, f, got, ok, want, wantOK)
	}
	p.hold()
}

func (p *pair) store(cell int, f int, w api.Word) bool {
	p.t.Helper()
	p.say("Store(%d, %d, %v)", cell, f, w)
	got := p.a.Store(cell, f, w)
	if want := p.m.store(cell, f, w); got != want {
		p.fail("= %v, want %v", got, want)
	}
	p.hold()
	return got
}

func (p *pair) undo(mark int) bool {
	p.t.Helper()
	p.say("Undo(%d)", mark)
	got := p.a.Undo(mark)
	if want := p.m.undo(mark); got != want {
		p.fail("= %v, want %v", got, want)
	}
	p.hold()
	return got
}

func (p *pair) clone() *pair {
	p.t.Helper()
	c := &pair{t: p.t, a: p.a.Clone(), m: p.m.cloned(), trail: slices.Clone(p.trail)}
	if c.a == nil || c.a == p.a {
		p.fail("Clone() = %p of %p", c.a, p.a)
	}
	c.say("Clone()")
	c.hold()
	p.hold()
	return c
}

// mixed is of six cells: 1 and 4 live, 2 and 5 retired, 3 and 6 free, all behind their first life, with fields; what is free had a field stored into it, too.
func mixed(t *testing.T) *pair {
	t.Helper()
	p := newPair(t, 6)
	for range 3 {
		for cell := range 6 {
			p.free(cell + 1)
		}
		for cell := range 6 {
			p.alloc(cell+10, cell+20)
		}
	}
	for cell := 1; cell <= 6; cell++ {
		p.store(cell, 0, api.Word{N: int64(cell) + 30})
		p.store(cell, 1, api.Word{N: int64(cell), Cell: cell, Gen: 3})
	}
	for _, cell := range []int{2, 5} {
		p.retire(cell)
	}
	for _, cell := range []int{6, 3} {
		p.free(cell)
		p.store(cell, cell%2, api.Word{N: 2, Cell: 2, Gen: 1})
	}
	for i, c := range p.a.Cells() {
		if c.Status != []int{api.Live, api.Retired, api.Free}[i%3] || c.Gen != 3 || c.F == [2]api.Word{} {
			t.Fatalf("cell %d is %v", i+1, c)
		}
	}
	return p
}

// strangers are arenas that New did not make, each of them new.
func strangers() []*arena.Arena {
	return []*arena.Arena{nil, {}, new(arena.Arena), (*arena.Arena)(nil).Clone(), (&arena.Arena{}).Clone()}
}

// P16.1: New has that many cells, or the nearest number: all free, Gen 0, in order, with no change behind it.
func TestNew(t *testing.T) {
	for _, s := range sizes {
		for range 2 {
			a := arena.New(s.asked)
			if a == nil {
				t.Fatalf("New(%d) = nil", s.asked)
			}
			cells, row := a.Cells(), a.List()
			if len(cells) != s.had || len(row) != s.had || a.Mark() != 0 {
				t.Fatalf("New(%d): %v, %v, %d, want %d cells", s.asked, cells, row, a.Mark(), s.had)
			}
			for i := range s.had {
				if cells[i] != (api.Cell{}) || row[i] != i+1 {
					t.Fatalf("New(%d): %v, %v", s.asked, cells, row)
				}
			}
			if a.Free(1) || a.Retire(1) || a.Undo(1) || !a.Undo(0) {
				t.Fatalf("New(%d): something is given out", s.asked)
			}
		}
	}
}

// P16.1: all that are asked for go out, in order, once each; one more is none.
func TestNewGoesOut(t *testing.T) {
	for _, s := range sizes {
		p := newPair(t, s.asked)
		for i := range s.had {
			if w := p.alloc(i, -i); w != (api.Word{N: int64(i) + 1, Cell: i + 1, Gen: 1}) {
				t.Fatalf("New(%d): Alloc %d = %v", s.asked, i, w)
			}
		}
		for range 3 {
			if w, ok := p.a.Alloc(1, 1); w != (api.Word{}) || ok {
				t.Fatalf("New(%d): one more: %v, %v", s.asked, w, ok)
			}
			p.hold()
		}
		for i := range s.had {
			p.free(s.had - i)
		}
		for range s.had + 1 {
			p.alloc(2, 2)
		}
	}
}

// P16.1, and the chapter's example: Alloc gives 1, then 2; Free 1, Free 2, Alloc gives 2, in its second life.
func TestExample(t *testing.T) {
	a := arena.New(2)
	for _, want := range []api.Word{{N: 1, Cell: 1, Gen: 1}, {N: 2, Cell: 2, Gen: 1}} {
		if w, ok := a.Alloc(0, 0); w != want || !ok {
			t.Fatalf("Alloc() = %v, %v, want %v", w, ok, want)
		}
	}
	if !a.Free(1) || !a.Free(2) {
		t.Fatal("Free 1, Free 2")
	}
	if l := a.List(); !slices.Equal(l, []int{2, 1}) {
		t.Fatalf("List() = %v", l)
	}
	if w, ok := a.Alloc(0, 0); w != (api.Word{N: 2, Cell: 2, Gen: 2}) || !ok {
		t.Fatalf("Alloc() = %v, %v", w, ok)
	}
	if l := a.List(); !slices.Equal(l, []int{1}) || a.Mark() != 5 {
		t.Fatalf("List() = %v, Mark() = %d", l, a.Mark())
	}
}

// P16.1: Alloc of every By and Pc, in the first, second and third life, with fields that an earlier life had.
func TestAlloc(t *testing.T) {
	for _, by := range owners {
		for _, pc := range owners {
			p := newPair(t, 2)
			for life := range 3 {
				for cell := 1; cell <= 2; cell++ {
					w := p.alloc(by, pc)
					want := api.Cell{Status: 1, Gen: life + 1, By: by, Pc: pc}
					if w != (api.Word{N: int64(cell), Cell: cell, Gen: life + 1}) || p.a.Cells()[cell-1] != want {
						p.fail("= %v, %v, want %v", w, p.a.Cells(), want)
					}
					p.find(w)
					p.store(cell, 0, api.Word{N: 5})
					p.store(cell, 1, w)
				}
				p.alloc(pc, by)
				p.free(2)
				p.free(1)
			}
		}
	}
}

// P16.1: Alloc where none is free is the plain word 0 and false, and changes nothing, whatever the cells are.
func TestAllocNone(t *testing.T) {
	for _, cells := range []int{0, 1, 2, 3, 6, 7, -1, least, most} {
		p := newPair(t, cells)
		for range p.m.now.cells {
			p.alloc(3, 4)
		}
		for _, by := range owners {
			for _, pc := range owners {
				if w, ok := p.a.Alloc(by, pc); w != (api.Word{}) || ok {
					p.fail("Alloc(%d, %d) = %v, %v", by, pc, w, ok)
				}
			}
			p.hold()
		}
		for cell := range p.m.now.cells {
			p.retire(cell + 1)
			p.alloc(0, 0)
		}
		for cell := range p.m.now.cells {
			p.free(cell + 1)
			p.alloc(1, 1)
			p.alloc(2, 2)
		}
	}
}

// P16.1: a field that was stored into while the cell was free is a plain word 0 when it goes out.
func TestAllocFields(t *testing.T) {
	for _, w := range words {
		for f := range 2 {
			p := newPair(t, 3)
			p.store(1, f, w)
			p.store(3, 1-f, w)
			for range 3 {
				p.alloc(1, 2)
			}
			for cell := 1; cell <= 3; cell++ {
				p.load(cell, 0)
				p.load(cell, 1)
			}
			for len(p.m.was) > 0 {
				p.undo(len(p.m.was) - 1)
			}
		}
	}
}

// P16.1: Free of a live cell and of a retired one: By, Pc and fields are 0, the Gen stays, the cell stands first in the row.
func TestFree(t *testing.T) {
	for cells := 1; cells <= 6; cells++ {
		for cell := 1; cell <= cells; cell++ {
			for _, retired := range []bool{false, true} {
				p := newPair(t, cells)
				for range 3 {
					for !p.m.is(cell, 1) {
						p.alloc(-7, 8)
					}
					p.store(cell, 0, api.Word{N: 9})
					p.store(cell, 1, api.Word{N: 1, Cell: 1, Gen: 1})
					if retired {
						p.retire(cell)
					}
					gen := p.a.Cells()[cell-1].Gen
					if !p.free(cell) || p.a.Cells()[cell-1] != (api.Cell{Gen: gen}) || p.a.List()[0] != cell {
						p.fail("%v, %v", p.a.Cells(), p.a.List())
					}
				}
			}
		}
	}
}

// P16.1: Free of a free cell, and of none, is false and changes nothing.
func TestFreeFalse(t *testing.T) {
	for _, s := range sizes {
		p := newPair(t, s.asked)
		for _, cell := range append([]int{s.had + 1, s.had, 1}, lost...) {
			if p.free(cell) {
				p.fail("New(%d): Free(%d) = true", s.asked, cell)
			}
		}
	}
	p := mixed(t)
	for _, cell := range append([]int{3, 6}, lost...) {
		for range 2 {
			if p.free(cell) {
				p.fail("Free(%d) = true", cell)
			}
		}
	}
	for _, cell := range []int{5, 1, 4, 2} {
		if !p.free(cell) || p.free(cell) {
			p.fail("Free(%d), twice", cell)
		}
	}
}

// P16.1: cells go out as they were freed, the last one first, in every order of freeing.
func TestRow(t *testing.T) {
	for first := 1; first <= 4; first++ {
		for second := 1; second <= 4; second++ {
			for third := 1; third <= 4; third++ {
				p := newPair(t, 4)
				for range 4 {
					p.alloc(1, 1)
				}
				p.retire(2)
				for _, cell := range []int{first, second, third} {
					p.free(cell)
				}
				for range 5 {
					p.alloc(2, 2)
				}
			}
		}
	}
}

// P16.1: Retire of a live cell has it be retired, and changes nothing else; it is in no row.
func TestRetire(t *testing.T) {
	for cells := 1; cells <= 6; cells++ {
		for cell := 1; cell <= cells; cell++ {
			for by, pc := range map[int]int{0: 0, 1: -1, most: least, least: most, 3: 15} {
				p := newPair(t, cells)
				for !p.m.is(cell, 1) {
					p.alloc(by, pc)
				}
				p.store(cell, 0, api.Word{N: 9})
				p.store(cell, 1, api.Word{N: 1, Cell: 1, Gen: 1})
				want := p.a.Cells()[cell-1]
				want.Status = api.Retired
				if !p.retire(cell) || p.a.Cells()[cell-1] != want || slices.Contains(p.a.List(), cell) {
					p.fail("%v, %v", p.a.Cells(), p.a.List())
				}
				if p.retire(cell) {
					p.fail("Retire(%d) again = true", cell)
				}
			}
		}
	}
}

// P16.1: Retire of a retired cell, a free one, and none is false and changes nothing.
func TestRetireFalse(t *testing.T) {
	for _, s := range sizes {
		p := newPair(t, s.asked)
		for _, cell := range append([]int{s.had + 1, s.had, 1}, lost...) {
			if p.retire(cell) {
				p.fail("New(%d): Retire(%d) = true", s.asked, cell)
			}
		}
	}
	p := mixed(t)
	for _, cell := range append([]int{2, 3, 5, 6}, lost...) {
		if p.retire(cell) {
			p.fail("Retire(%d) = true", cell)
		}
	}
	p.free(2)
	p.retire(2)
}

// P16.2: Find of what is no pointer, and of cells that are not there, is 0.
func TestFindNone(t *testing.T) {
	for _, p := range []*pair{mixed(t), newPair(t, 0), newPair(t, 1), newPair(t, 6)} {
		cells := len(p.m.now.cells)
		for _, cell := range append([]int{cells + 1}, lost...) {
			for _, n := range []int64{0, 1, 2, 6, 7, -1, int64(cell), math.MinInt64, math.MaxInt64} {
				for _, gen := range []int{0, 1, 2, 3, -1, least, most} {
					if got := p.a.Find(api.Word{N: n, Cell: cell, Gen: gen}); got != 0 {
						p.fail("Find(%d, %d, %d) = %d", n, cell, gen, got)
					}
				}
			}
		}
		for n := int64(-2); n < 9; n++ {
			if got := p.find(api.Word{N: n}); got != 0 {
				p.fail("Find of the plain word %d = %d", n, got)
			}
		}
	}
}

// P16.2: Find of a pointer into each life of each cell, while that is free, live and retired, whatever the word's number is.
func TestFind(t *testing.T) {
	p := mixed(t)
	told := map[int]int{}
	for cell := 1; cell <= 6; cell++ {
		gen := p.a.Cells()[cell-1].Gen
		for _, life := range []int{gen, gen - 1, gen + 1, gen - 2, gen + 2, 0, 1, -gen, -1, gen + 256, gen + 1<<32, least, least + gen, most} {
			for _, n := range []int64{int64(cell), 0, -1, int64(cell) + 1, 7, math.MinInt64, math.MaxInt64} {
				got := p.find(api.Word{N: n, Cell: cell, Gen: life})
				want := 1
				if life == gen {
					want = []int{2, 3, 1}[(cell-1)%3]
				}
				if got != want {
					p.fail("Find(%d, %d, %d) = %d, want %d", n, cell, life, got, want)
				}
				told[got]++
			}
		}
	}
	if told[1] == 0 || told[2] == 0 || told[3] == 0 {
		t.Fatalf("found %v", told)
	}
}

// P16.2: Find through the pointer that Alloc answered, from its life's begin to behind its end.
func TestFindLife(t *testing.T) {
	p := newPair(t, 1)
	if got := p.find(api.Word{N: 1, Cell: 1}); got != 1 {
		p.fail("ahead of all lives: %d", got)
	}
	if got := p.find(api.Word{N: 1, Cell: 1, Gen: 1}); got != 1 {
		p.fail("ahead of the first life: %d", got)
	}
	var old []api.Word
	for range 4 {
		w := p.alloc(1, 2)
		for i, want := range []int{2, 3, 1} {
			if i == 1 {
				p.retire(1)
			} else if i == 2 {
				p.free(1)
			}
			if got := p.find(w); got != want {
				p.fail("Find(%v) = %d, want %d", w, got, want)
			}
			for _, o := range old {
				if got := p.find(o); got != 1 {
					p.fail("Find(%v) of an earlier life = %d", o, got)
				}
			}
		}
		old = append(old, w)
	}
}

// P16.2: Load and Store of both fields of cells that are free, live and retired, of every word.
func TestFields(t *testing.T) {
	for _, w := range words {
		for cell := 1; cell <= 6; cell++ {
			for f := range 2 {
				p := mixed(t)
				other, _ := p.a.Load(cell, 1-f)
				if !p.store(cell, f, w) {
					p.fail("Store(%d, %d, %v) = false", cell, f, w)
				}
				if got, ok := p.a.Load(cell, f); got != w || !ok {
					p.fail("Load(%d, %d) = %v, %v, want %v", cell, f, got, ok, w)
				}
				if got, ok := p.a.Load(cell, 1-f); got != other || !ok {
					p.fail("Load(%d, %d) = %v, %v, want %v", cell, 1-f, got, ok, other)
				}
				for c := range 6 {
					p.load(c+1, 0)
					p.load(c+1, 1)
				}
			}
		}
	}
}

// P16.2: Load and Store of fields and cells that are not there are the plain word 0 and false, and change nothing.
func TestFieldsFalse(t *testing.T) {
	for _, p := range []*pair{mixed(t), newPair(t, 0), newPair(t, 1), newPair(t, 5)} {
		cells := len(p.m.now.cells)
		for _, w := range words {
			for cell := range cells {
				for _, f := range noFields {
					holdNoField(p, cell+1, f, w)
				}
			}
			for _, cell := range append([]int{cells + 1}, lost...) {
				for _, f := range append([]int{0, 1}, noFields...) {
					holdNoField(p, cell, f, w)
				}
			}
			p.hold()
		}
	}
}

func holdNoField(p *pair, cell int, f int, w api.Word) {
	p.t.Helper()
	if p.a.Store(cell, f, w) {
		p.fail("Store(%d, %d, %v) = true", cell, f, w)
	}
	if got, ok := p.a.Load(cell, f); got != (api.Word{}) || ok {
		p.fail("Load(%d, %d) = %v, %v", cell, f, got, ok)
	}
}

// P16.2, P2: Cells and List are new memory each time: who turns an answer turns nothing else, and a later change turns no answer.
func TestAnswers(t *testing.T) {
	p := mixed(t)
	cells, row := p.a.Cells(), p.a.List()
	for i := range cells {
		cells[i] = api.Cell{Status: 7, Gen: 8, By: 9, Pc: 10, F: [2]api.Word{{N: 11}, {N: 12}}}
	}
	for i := range row {
		row[i] = 5
	}
	p.hold()
	_ = append(cells[:0], api.Cell{Gen: 99})
	_ = append(row, 99)
	p.hold()
	kept, keptRow := p.a.Cells(), p.a.List()
	wantCells, wantRow := slices.Clone(kept), slices.Clone(keptRow)
	p.free(1)
	p.alloc(4, 4)
	p.retire(4)
	p.store(2, 0, api.Word{N: 1})
	p.free(2)
	p.alloc(1, 1)
	p.undo(3)
	if !slices.Equal(kept, wantCells) || !slices.Equal(keptRow, wantRow) {
		t.Fatalf("an answer was turned: %v, %v", kept, keptRow)
	}
	// What is put behind an answer shows in nothing that is told later.
	for range 6 {
		_ = append(p.a.List(), 99, 98, 97)
		_ = append(p.a.Cells(), api.Cell{Gen: 99})
		p.alloc(2, 2)
	}
}

// P16.2: a clone has the same cells, row and past, and both go on, and are undone, each by itself.
func TestClone(t *testing.T) {
	for _, s := range sizes {
		p := newPair(t, s.asked)
		c := p.clone()
		p.alloc(1, 1)
		c.hold()
		c.alloc(2, 2)
		p.hold()
		c.undo(0)
		p.hold()
	}
	p := mixed(t)
	for mark := 0; mark <= len(p.m.was); mark++ {
		one := p.clone()
		two := one.clone()
		one.undo(mark)
		two.hold()
		two.alloc(3, 3)
		two.store(1, 1, api.Word{N: 4})
		one.alloc(5, 5)
		one.store(1, 1, api.Word{N: 6})
		one.hold()
		two.hold()
		p.hold()
		two.undo(mark)
		one.hold()
		p.hold()
		one.undo(0)
		two.undo(0)
		p.hold()
	}
	for range 3 {
		p.undo(len(p.m.was) - 2)
		p.clone().undo(0)
	}
}

// P16.2: what the one does in its past's place behind an Undo does not come into the other's past.
func TestClonePast(t *testing.T) {
	p := newPair(t, 3)
	p.alloc(1, 1)
	p.alloc(2, 2)
	p.alloc(3, 3)
	p.free(2)
	c := p.clone()
	c.undo(1)
	c.store(1, 0, api.Word{N: 7})
	c.retire(1)
	c.free(1)
	p.hold()
	for mark := 4; mark >= 0; mark-- {
		p.undo(mark)
		c.hold()
	}
	p.alloc(5, 5)
	p.alloc(6, 6)
	for mark := 4; mark >= 0; mark-- {
		c.undo(mark)
		p.hold()
	}
}

// P16.3: Mark goes up by one behind each kind of change, and stays behind each call that was false, or that asks.
func TestMark(t *testing.T) {
	p := newPair(t, 2)
	holdMark(p, 0)
	p.alloc(0, 0)
	holdMark(p, 1)
	p.store(1, 0, api.Word{N: 3})
	holdMark(p, 2)
	// A field that has the word already gets it again: that is a Store like any other.
	p.store(1, 0, api.Word{N: 3})
	holdMark(p, 3)
	p.retire(1)
	holdMark(p, 4)
	p.free(1)
	holdMark(p, 5)
	p.alloc(0, 0)
	p.alloc(0, 0)
	holdMark(p, 7)
	p.alloc(0, 0)
	p.free(3)
	p.retire(0)
	p.store(1, 2, api.Word{N: 1})
	p.store(3, 0, api.Word{N: 1})
	p.undo(8)
	p.undo(-1)
	p.undo(7)
	p.load(1, 0)
	p.find(api.Word{N: 1, Cell: 1, Gen: 2})
	p.clone()
	holdMark(p, 7)
	p.undo(3)
	holdMark(p, 3)
	p.free(1)
	holdMark(p, 4)
	p.undo(0)
	holdMark(p, 0)
}

func holdMark(p *pair, want int) {
	p.t.Helper()
	if got := p.a.Mark(); got != want {
		p.fail("Mark() = %d, want %d", got, want)
	}
}

// P16.3: Undo to each mark from 0 to Mark() leads to what was there, once at one go and once mark by mark.
func TestUndo(t *testing.T) {
	p := mixed(t)
	for mark := 0; mark <= p.a.Mark(); mark++ {
		c := p.clone()
		if !c.undo(mark) || c.a.Mark() != mark {
			c.fail("Mark() = %d", c.a.Mark())
		}
		c.alloc(8, 9)
		c.free(1)
		c.undo(mark)
		c.undo(mark)
		c.undo(0)
	}
	for mark := p.a.Mark(); mark >= 0; mark-- {
		p.undo(mark)
	}
	if !reflect.DeepEqual(p.a.Cells(), arena.New(6).Cells()) || !slices.Equal(p.a.List(), []int{1, 2, 3, 4, 5, 6}) {
		p.fail("%v, %v", p.a.Cells(), p.a.List())
	}
}

// P16.3: Undo to what is no mark is false, and changes nothing.
func TestUndoFalse(t *testing.T) {
	for _, p := range []*pair{mixed(t), newPair(t, 0), newPair(t, 6)} {
		last := p.a.Mark()
		for _, mark := range []int{-1, -2, last + 1, last + 2, -last - 1, last + 256, last + 1<<31, last + 1<<32, 1 << 31, 1 << 32, -1 << 31, -1 << 32, most - 1, most, least, least + 1, least + last} {
			if p.undo(mark) {
				p.fail("Undo(%d) of %d = true", mark, last)
			}
		}
		if !p.undo(last) || !p.undo(0) {
			p.fail("Undo(%d), Undo(0)", last)
		}
		if p.undo(1) || p.undo(last+1) {
			p.fail("Undo(1) of none = true")
		}
	}
}

// steps are the kinds of changes, each of which is tried on every cell of two.
var steps = []func(p *pair){
	func(p *pair) { p.alloc(1, 2) },
	func(p *pair) { p.free(1) },
	func(p *pair) { p.free(2) },
	func(p *pair) { p.retire(1) },
	func(p *pair) { p.retire(2) },
	func(p *pair) { p.store(1, 0, api.Word{N: 5}) },
	func(p *pair) { p.store(2, 1, api.Word{N: 1, Cell: 1, Gen: 1}) },
}

// P16.3, P16.4: all rows of five steps, in all orders, undone to each mark; then another step is done, and undone.
func TestUndoOrders(t *testing.T) {
	const long = 5
	rows := 1
	for range long {
		rows *= len(steps)
	}
	for row := range rows {
		p := newPair(t, 2)
		for n, left := row, long; left > 0; left-- {
			steps[n%len(steps)](p)
			n /= len(steps)
		}
		last := p.a.Mark()
		mark := row % (last + 1)
		p.undo(mark)
		steps[row%len(steps)](p)
		p.undo(mark)
		steps[row/7%len(steps)](p)
		steps[row/49%len(steps)](p)
		p.undo(mark)
		for ; mark >= 0; mark-- {
			p.undo(mark)
		}
	}
}

// P16.3: a long past comes back whole.
func TestLongPast(t *testing.T) {
	a, m := arena.New(6), newModel(6)
	c := chance(16)
	var at []state
	for len(at) < 20000 {
		at = append(at, m.now.copied())
		for before := a.Mark(); a.Mark() == before; {
			stepByChance(a, m, &c)
		}
	}
	for mark := len(at) - 1; mark >= 0; mark -= 1 + c.next(50) {
		if !a.Undo(mark) || a.Mark() != mark || !slices.Equal(a.Cells(), at[mark].cells) || !slices.Equal(a.List(), at[mark].row) {
			t.Fatalf("Undo(%d): %v, %v, want %v", mark, a.Cells(), a.List(), at[mark])
		}
	}
}

// stepByChance does one thing to an arena and its model; the model's past is not kept, so that a long one takes no memory.
func stepByChance(a *arena.Arena, m *model, c *chance) {
	cell, f, w := c.next(6)+1, c.next(2), words[c.next(len(words))]
	switch c.next(4) {
	case 0:
		a.Alloc(cell, f)
		m.alloc(cell, f)
	case 1:
		a.Free(cell)
		m.free(cell)
	case 2:
		a.Retire(cell)
		m.retire(cell)
	case 3:
		a.Store(cell, f, w)
		m.store(cell, f, w)
	}
	m.was = nil
}

// P16.1 to P16.4: what any calls lead to, by chance, is what the model says; marks, clones and wrong calls among them.
func TestChance(t *testing.T) {
	for seed := range 60 {
		c := chance(seed)
		p := newPair(t, c.next(7))
		others := []*pair{p}
		for range 500 {
			p = others[c.next(len(others))]
			callByChance(p, &c)
			if c.next(40) == 0 && len(others) < 4 {
				others = append(others, p.clone())
			}
		}
		for _, p := range others {
			p.hold()
			p.undo(0)
		}
	}
}

// callByChance does one call, most often one that can be done.
func callByChance(p *pair, c *chance) {
	p.t.Helper()
	cell, f, w := c.next(6)+1, c.next(2), words[c.next(len(words))]
	if c.next(12) == 0 {
		cell = lost[c.next(len(lost))]
	}
	if c.next(12) == 0 {
		f = noFields[c.next(len(noFields))]
	}
	switch c.next(8) {
	case 0, 1:
		p.alloc(owners[c.next(len(owners))], owners[c.next(len(owners))])
	case 2:
		p.free(cell)
	case 3:
		p.retire(cell)
	case 4:
		p.store(cell, f, w)
	case 5:
		p.load(cell, f)
		p.find(api.Word{N: int64(c.next(7)), Cell: cell, Gen: c.next(6)})
	case 6:
		p.find(w)
	case 7:
		if c.next(3) == 0 {
			p.undo(len(p.m.was) + 2 - c.next(len(p.m.was)/3+4))
		}
	}
}

// P16.3: nil, and an arena that New did not make, answer false, 0, nothing, nil, in an order in which none helps the next one.
func TestStrangers(t *testing.T) {
	for i, a := range strangers() {
		for range 2 {
			for _, n := range []int{0, 1, 2, 6, 7, -1, least, most} {
				holdStranger(t, i, a, n)
			}
		}
	}
}

func holdStranger(t *testing.T, i int, a *arena.Arena, n int) {
	t.Helper()
	if w, ok := a.Alloc(n, n); w != (api.Word{}) || ok {
		t.Fatalf("%d: Alloc(%d) = %v, %v", i, n, w, ok)
	}
	if a.Free(n) || a.Retire(n) || a.Undo(n) || a.Undo(0) {
		t.Fatalf("%d: Free, Retire or Undo of %d", i, n)
	}
	for _, w := range append([]api.Word{{N: int64(n), Cell: n, Gen: n}, {Cell: n}}, words...) {
		if got := a.Find(w); got != 0 {
			t.Fatalf("%d: Find(%v) = %d", i, w, got)
		}
		for f := -1; f <= 2; f++ {
			if a.Store(n, f, w) {
				t.Fatalf("%d: Store(%d, %d, %v) = true", i, n, f, w)
			}
			if got, ok := a.Load(n, f); got != (api.Word{}) || ok {
				t.Fatalf("%d: Load(%d, %d) = %v, %v", i, n, f, got, ok)
			}
		}
	}
	if len(a.Cells()) != 0 || len(a.List()) != 0 || a.Mark() != 0 || a.Clone() != nil {
		t.Fatalf("%d: %v, %v, %d, %v", i, a.Cells(), a.List(), a.Mark(), a.Clone())
	}
}

// P1: an arena of 0 cells is one: it has a past of no changes, and a clone.
func TestNoCells(t *testing.T) {
	for _, asked := range []int{0, -1, least} {
		p := newPair(t, asked)
		if !p.undo(0) || p.undo(1) || p.clone() == nil {
			t.Fatalf("New(%d)", asked)
		}
		p.alloc(0, 0)
		for _, cell := range append([]int{1}, lost...) {
			p.free(cell)
			p.retire(cell)
			p.store(cell, 0, api.Word{N: 1})
			p.load(cell, 1)
			p.find(api.Word{N: int64(cell), Cell: cell, Gen: 1})
		}
	}
}

// P1: an arena that is copied as a struct, which no call does, has both go on without a panic.
func TestCopied(t *testing.T) {
	c := chance(5)
	for range 200 {
		a := arena.New(3)
		m := newModel(3)
		for range 10 {
			stepByChance(a, m, &c)
		}
		b := *a
		for range 40 {
			one := []*arena.Arena{a, &b}[c.next(2)]
			stepByChance(one, m, &c)
			if c.next(5) == 0 {
				one.Undo(c.next(one.Mark() + 1))
			}
			holdRow(t, one.Cells(), one.List())
		}
	}
}

// P3: arenas tell the same whatever runs beside them; one that is not changed may be asked by many.
func TestBeside(t *testing.T) {
	shared := mixed(t)
	want, row, mark := shared.a.Cells(), shared.a.List(), shared.a.Mark()
	var wait sync.WaitGroup
	for i := range 16 {
		wait.Go(func() {
			p := newPair(t, 6)
			c := chance(i % 4)
			for range 200 {
				stepByChance(p.a, p.m, &c)
				if !slices.Equal(p.a.Cells(), p.m.now.cells) || !slices.Equal(p.a.List(), p.m.now.row) {
					t.Errorf("%v, %v, want %v", p.a.Cells(), p.a.List(), p.m.now)
					return
				}
				clone := shared.a.Clone()
				clone.Free(1)
				clone.Undo(c.next(clone.Mark()))
				if !slices.Equal(shared.a.Cells(), want) || !slices.Equal(shared.a.List(), row) || shared.a.Mark() != mark || shared.a.Find(api.Word{Cell: 1, Gen: want[0].Gen}) != 2 {
					t.Error("a clone changed its original")
					return
				}
			}
		})
	}
	wait.Wait()
}
