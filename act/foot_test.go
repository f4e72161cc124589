package act_test

import (
	"testing"

	"warrener/act"
	"warrener/api"
	"warrener/place"
)

// The chapter's example.
func TestExample(t *testing.T) {
	th := api.Thread{Fuel: 1, Regs: [4]api.Word{{}, {N: 2, Cell: 2, Gen: 1}}}
	a := act.Of(program(1, api.Instr{Op: api.OpLoad, A: 0, B: 1, N: 1}), 0, th, 0)
	for _, order := range []int{api.SC, api.TSO} {
		f := act.Foot(order, a, nil)
		if len(f.Reads) != 2 || place.Text(f.Reads[0]) != "head 2" || place.Text(f.Reads[1]) != "field 2 1" || len(f.Writes) != 0 {
			t.Fatalf("it touches %+v", f)
		}
	}
}

// P27.2: Flush has the entry's place, word and life, of any size, and nothing more.
func TestFlush(t *testing.T) {
	holdFlush := func(e api.Entry) {
		if got, want := act.Flush(e), (api.Act{Kind: 11, Place: e.Place, Word: e.Word, Gen: e.Gen}); got != want {
			t.Fatalf("Flush(%+v) = %+v, want %+v", e, got, want)
		}
	}
	holdFlush(api.Entry{})
	holdFlush(api.Entry{Place: api.Place{Kind: api.PlField, I: 2, J: 1}, Word: api.Word{N: 3, Cell: 3, Gen: 4}, Gen: 5, Pc: 6})
	for _, n := range ints() {
		for _, w := range words() {
			holdFlush(api.Entry{Place: api.Place{Kind: n, I: 1, J: 2}, Word: w, Gen: 3, Pc: 4})
			holdFlush(api.Entry{Place: api.Place{Kind: 3, I: n, J: 2}, Word: w, Gen: n, Pc: 4})
			holdFlush(api.Entry{Place: api.Place{Kind: 3, I: 1, J: n}, Word: w, Gen: 3, Pc: n})
		}
	}
}

// P27.2: Room and Drained go by the kind alone: each kind, and numbers that are none.
func TestRoomDrained(t *testing.T) {
	c := chance(5)
	for _, kind := range actKinds() {
		for range 40 {
			a := c.act()
			a.Kind = kind
			for _, a := range []api.Act{a, {Kind: kind}} {
				if got := act.Room(a); got != (kind == 3) {
					t.Fatalf("Room(%+v) = %v", a, got)
				}
				if got := act.Drained(a); got != (kind == 4 || kind == 5) {
					t.Fatalf("Drained(%+v) = %v", a, got)
				}
			}
		}
	}
}

// P27.2: what must be in the buffer's way, instruction by instruction.
func TestInTheWay(t *testing.T) {
	room := map[int]bool{api.OpPut: true, api.OpStore: true, api.OpGuard: true, api.OpClear: true, api.OpLeave: true, api.OpQuiet: true}
	drained := map[int]bool{api.OpSwap: true, api.OpCas: true, api.OpFence: true}
	for op := 1; op <= 25; op++ {
		for _, x := range all(op, 1) {
			a := act.Of(program(1, x), 0, running(four(api.Word{N: 1, Cell: 1, Gen: 1})), 0)
			if act.Room(a) != room[op] || act.Drained(a) != drained[op] {
				t.Fatalf("%+v: %v, %v", x, act.Room(a), act.Drained(a))
			}
		}
	}
}

// P27.3: each kind of act, written out, under both orders.
func TestFootOneByOne(t *testing.T) {
	root, head, field := api.Place{Kind: api.PlRoot, I: 1}, api.Place{Kind: api.PlHead, I: 2}, api.Place{Kind: api.PlField, I: 2, J: 1}
	other, heap, slot := api.Place{Kind: api.PlField, I: 2}, api.Place{Kind: api.PlHeap}, api.Place{Kind: api.PlSlot, I: 1, J: 1}
	at, none := api.Word{N: 2, Cell: 2, Gen: 1}, api.Word{N: 2}
	gone := []api.Bagged{{Cell: 2, Gen: 1, N: 4}}
	l := func(l ...api.Place) []api.Place { return l }
	for _, x := range []struct {
		a                   api.Act
		reads, writes, late []api.Place
	}{
		{api.Act{Kind: api.ActNone, Place: field, At: at}, nil, nil, nil},
		{api.Act{Kind: api.ActLocal, Place: field, At: at}, nil, nil, nil},
		{api.Act{Kind: api.ActRead, Place: root}, l(root), nil, nil},
		{api.Act{Kind: api.ActRead, Place: field, At: at}, l(head, field), nil, nil},
		{api.Act{Kind: api.ActRead, At: none}, nil, nil, nil},
		{api.Act{Kind: api.ActRead, At: at}, l(head), nil, nil},
		{api.Act{Kind: api.ActWrite, Place: root}, nil, l(root), nil},
		{api.Act{Kind: api.ActWrite, Place: field, At: at, Word: at}, l(head), l(field), nil},
		{api.Act{Kind: api.ActWrite, At: none}, nil, nil, nil},
		{api.Act{Kind: api.ActWrite, At: at}, l(head), nil, nil},
		{api.Act{Kind: api.ActSwap, Place: root, Want: at, Word: at}, l(root), l(root), l(root)},
		{api.Act{Kind: api.ActSwap, Place: field, At: at}, l(head, field), l(field), l(field)},
		{api.Act{Kind: api.ActSwap, At: none, Want: at, Word: at}, nil, nil, nil},
		{api.Act{Kind: api.ActSwap, At: at}, l(head), nil, nil},
		{api.Act{Kind: api.ActFence, Place: field, At: at}, nil, nil, nil},
		{api.Act{Kind: api.ActAlloc, Place: field, At: at}, nil, l(heap), l(heap)},
		{api.Act{Kind: api.ActFree, Place: root, At: at}, nil, l(head, other, field, heap), l(head, other, field, heap)},
		{api.Act{Kind: api.ActFree, Place: root, At: none, Word: at, Want: at}, nil, nil, nil},
		{api.Act{Kind: api.ActRetire, Place: root, At: at}, nil, l(head), l(head)},
		{api.Act{Kind: api.ActRetire, Place: root, At: none, Word: at, Want: at}, nil, nil, nil},
		{api.Act{Kind: api.ActScan, Place: slot, At: at}, l(slot), nil, nil},
		{api.Act{Kind: api.ActRelease, Place: root, At: api.Word{N: 3, Cell: 3, Gen: 1}}, nil, l(head, other, field, heap), l(head, other, field, heap)},
		{api.Act{Kind: api.ActFlush, Place: root, At: at, Word: at}, nil, l(root), l(root)},
		{api.Act{Kind: api.ActFlush, Place: field, At: api.Word{N: 3, Cell: 3, Gen: 1}, Gen: 1}, l(head), l(field), l(field)},
		{api.Act{Kind: 12, Place: field, At: at}, nil, nil, nil},
		{api.Act{Kind: -1, Place: field, At: at}, nil, nil, nil},
	} {
		holdFootIs(t, api.SC, x.a, gone, x.reads, x.writes)
		holdFootIs(t, api.TSO, x.a, gone, x.reads, x.late)
	}
}

// P27.3: an act that lets go touches which cells are free, and all of each that goes: none, one, several, one twice, and those that are none.
func TestFootGone(t *testing.T) {
	heap := api.Place{Kind: api.PlHeap}
	head := func(cell int) api.Place { return api.Place{Kind: api.PlHead, I: cell} }
	field := func(cell int, f int) api.Place { return api.Place{Kind: api.PlField, I: cell, J: f} }
	for _, x := range []struct {
		cells []int
		want  []api.Place
	}{
		{nil, []api.Place{heap}},
		{[]int{6}, []api.Place{head(6), field(6, 0), field(6, 1), heap}},
		{[]int{5, 1}, []api.Place{head(1), head(5), field(1, 0), field(1, 1), field(5, 0), field(5, 1), heap}},
		{[]int{3, 3}, []api.Place{head(3), field(3, 0), field(3, 1), heap}},
		{[]int{2, 3, 2}, []api.Place{head(2), head(3), field(2, 0), field(2, 1), field(3, 0), field(3, 1), heap}},
		{[]int{0}, []api.Place{head(0), field(0, 0), field(0, 1), heap}},
		{[]int{7, -1}, []api.Place{head(-1), head(7), field(-1, 0), field(-1, 1), field(7, 0), field(7, 1), heap}},
		{[]int{most, least}, []api.Place{head(least), head(most), field(least, 0), field(least, 1), field(most, 0), field(most, 1), heap}},
	} {
		var gone []api.Bagged
		for i, cell := range x.cells {
			gone = append(gone, api.Bagged{Cell: cell, Gen: i, N: int64(9 - i)})
		}
		for _, order := range ints() {
			holdFootIs(t, order, api.Act{Kind: api.ActRelease}, gone, nil, x.want)
		}
	}
}

// cells are those that there can be, those beside them, and both ends.
var cells = []int{-1, 0, 1, 2, 5, 6, 7, least, least + 1, most - 1, most, 1 << 32, 1<<32 + 1}

// P27.3, P1: acts of each kind, and of numbers that are none, with places of each kind, under each order, through pointers to cells of any number.
func TestFootAll(t *testing.T) {
	gone := []api.Bagged{{Cell: 4}, {Cell: 1}}
	for _, kind := range actKinds() {
		for placeKind := -1; placeKind <= 9; placeKind++ {
			for _, i := range cells {
				for _, cell := range cells {
					a := api.Act{Kind: kind, Place: api.Place{Kind: placeKind, I: i, J: 1}, At: api.Word{N: int64(i), Cell: cell, Gen: 3}, Word: api.Word{N: 6, Cell: 6, Gen: 1}, Want: api.Word{N: 5, Cell: 5, Gen: 1}, Gen: 2}
					for _, order := range []int{api.SC, api.TSO} {
						holdFoot(t, order, a, gone)
					}
				}
			}
		}
	}
}

// P27.3, P1: orders that are none: a store is written at once under SC alone.
func TestFootOrders(t *testing.T) {
	c := chance(7)
	for _, order := range append(ints(), 1<<16, -1<<16) {
		for kind := range 13 {
			for range 20 {
				a := c.act()
				a.Kind = kind
				holdFoot(t, order, a, c.gone(4))
			}
		}
		late := act.Foot(order, api.Act{Kind: api.ActWrite, Place: api.Place{Kind: api.PlRoot}}, nil)
		if (len(late.Writes) == 1) != (order == 0) {
			t.Fatalf("under the order %d: %+v", order, late)
		}
	}
}

// P27.3: of each act that Of and Flush tell.
func TestFootOfActs(t *testing.T) {
	c := chance(9)
	for range 30000 {
		p, th := c.prog(), c.thread()
		holdFoot(t, c.next(2), act.Of(p, c.next(len(p.Code)), th, c.number()), c.gone(3))
		holdFoot(t, c.next(2), act.Flush(api.Entry{Place: c.place(), Word: c.word(), Gen: int(c.number()), Pc: c.next(16)}), c.gone(3))
		holdFoot(t, int(c.number()), c.act(), c.gone(6))
	}
}
