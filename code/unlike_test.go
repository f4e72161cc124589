package code_test

import (
	"reflect"
	"slices"
	"testing"

	"warrener/api"
	"warrener/code"
)

// copied is a state that shares nothing with another one; its empty lists are nil.
func copied(s api.State) api.State {
	s.Threads = slices.Concat(s.Threads)
	for i, th := range s.Threads {
		s.Threads[i].Micro.Seen, s.Threads[i].Bag, s.Threads[i].Snap = slices.Concat(th.Micro.Seen), slices.Concat(th.Bag), slices.Concat(th.Snap)
	}
	s.Buffers = slices.Concat(s.Buffers)
	for i, l := range s.Buffers {
		s.Buffers[i] = slices.Concat(l)
	}
	s.Roots, s.Slots, s.Cells, s.Free = slices.Concat(s.Roots), slices.Concat(s.Slots), slices.Concat(s.Cells), slices.Concat(s.Free)
	s.Marks, s.Counts = slices.Concat(s.Marks), slices.Concat(s.Counts)
	return s
}

// leaves are all numbers of a thing, in it.
func leaves(v reflect.Value) []reflect.Value {
	var l []reflect.Value
	switch v.Kind() {
	case reflect.Struct:
		for i := range v.NumField() {
			l = append(l, leaves(v.Field(i))...)
		}
	case reflect.Slice, reflect.Array:
		for i := range v.Len() {
			l = append(l, leaves(v.Index(i))...)
		}
	default:
		l = append(l, v)
	}
	return l
}

// lists are all lists of a thing, in it.
func lists(v reflect.Value) []reflect.Value {
	var l []reflect.Value
	switch v.Kind() {
	case reflect.Struct:
		for i := range v.NumField() {
			l = append(l, lists(v.Field(i))...)
		}
	case reflect.Slice:
		l = append(l, v)
		for i := range v.Len() {
			l = append(l, lists(v.Index(i))...)
		}
	}
	return l
}

// oneField are copies of a state in each of which one number is another one.
func oneField(s api.State) []api.State {
	var all []api.State
	for i := range leaves(reflect.ValueOf(&s).Elem()) {
		for _, other := range []func(n int64) int64{
			func(n int64) int64 { return n + 1 },
			func(n int64) int64 { return n ^ 1<<8 },
			func(n int64) int64 { return n ^ 1<<32 },
			func(n int64) int64 { return n ^ least },
			func(n int64) int64 { return ^n },
		} {
			next := copied(s)
			v := leaves(reflect.ValueOf(&next).Elem())[i]
			v.SetInt(other(v.Int()))
			all = append(all, next)
		}
	}
	return all
}

// oneLength are copies of a state in each of which one list is longer, by an empty thing, or by one like its last, at either end, or shorter.
func oneLength(s api.State) []api.State {
	var all []api.State
	for i := range lists(reflect.ValueOf(&s).Elem()) {
		for how := range 5 {
			next := copied(s)
			v := lists(reflect.ValueOf(&next).Elem())[i]
			if v.Len() == 0 && how > 0 {
				continue
			}
			zero := reflect.Zero(v.Type().Elem())
			switch how {
			case 0:
				v.Set(reflect.Append(v, zero))
			case 1:
				v.Set(reflect.Append(v, v.Index(v.Len()-1)))
			case 2:
				v.Set(reflect.AppendSlice(reflect.Append(reflect.Zero(v.Type()), zero), v))
			case 3:
				v.Set(v.Slice(0, v.Len()-1))
			case 4:
				v.Set(v.Slice(1, v.Len()))
			}
			all = append(all, next)
		}
	}
	return all
}

// oneBound are copies of a state in each of which what stands in two lists that are alike, and next to each other, is cut elsewhere.
func oneBound(s api.State) []api.State {
	var all []api.State
	count := len(lists(reflect.ValueOf(&s).Elem()))
	for i := range count {
		for j := i + 1; j < count; j++ {
			next := copied(s)
			l := lists(reflect.ValueOf(&next).Elem())
			if l[i].Type() != l[j].Type() {
				continue
			}
			both := reflect.AppendSlice(l[i].Slice(0, l[i].Len()), l[j])
			for cut := range both.Len() + 1 {
				next := copied(s)
				l := lists(reflect.ValueOf(&next).Elem())
				if cut == l[i].Len() || len(l) != count {
					continue
				}
				// The longer of both could hold lists of its own: those are moved with it.
				l[j].Set(both.Slice(cut, both.Len()))
				l[i].Set(both.Slice3(0, cut, cut))
				all = append(all, next)
			}
		}
	}
	return all
}

// holdUnlike holds a state's octets against those of another one, and against those of others that were looked at.
func holdUnlike(t *testing.T, seen map[string]api.State, s api.State) {
	t.Helper()
	b := string(code.Put(s))
	was, ok := seen[b]
	if ok && !reflect.DeepEqual(copied(was), copied(s)) {
		t.Fatalf("two have the same octets:\n%+v\n%+v", was, s)
	}
	seen[b] = s
}

// P28.3: states that differ in one field, in one length, or in where one list ends and the next one begins, have unlike octets, and unlike sums.
func TestUnlikeOneByOne(t *testing.T) {
	for _, s := range append(states(29, 12), full(1, 1), full(2, 2), full(4, 4), numbered(2, 2, 2, 2, 2, 2), api.State{}) {
		octets, sum := string(code.Put(s)), code.Hash(s)
		for _, other := range slices.Concat(oneField(s), oneLength(s), oneBound(s)) {
			same := reflect.DeepEqual(copied(s), copied(other))
			if (string(code.Put(other)) == octets) != same || (code.Hash(other) == sum) != same {
				t.Fatalf("one of both is unlike, the other one is not:\n%+v\n%+v", s, other)
			}
		}
	}
}

// P28.3: of many states any two that are unlike have unlike octets.
func TestUnlike(t *testing.T) {
	seen := map[string]api.State{}
	for _, s := range states(31, 3000) {
		holdUnlike(t, seen, s)
	}
	for _, s := range append(states(37, 4), numbered(1, 1, 1, 1, 1, 1), api.State{}) {
		for _, other := range slices.Concat([]api.State{s}, oneField(s), oneLength(s), oneBound(s)) {
			holdUnlike(t, seen, other)
			for _, third := range oneLength(other) {
				holdUnlike(t, seen, third)
			}
		}
	}
}

// P28.3: those of two threads, two buffers, and what two states share, likewise.
func TestUnlikeParts(t *testing.T) {
	threads, buffers, shares := map[string]api.Thread{}, map[string][]api.Entry{}, map[string]api.State{}
	for _, s := range append(states(41, 4), full(2, 2)) {
		for _, other := range slices.Concat([]api.State{s}, oneField(s), oneLength(s), oneBound(s)) {
			other = copied(other)
			for _, th := range other.Threads {
				b := string(code.Thread(th))
				if was, ok := threads[b]; ok && !reflect.DeepEqual(was, th) {
					t.Fatalf("two threads have the same octets:\n%+v\n%+v", was, th)
				}
				threads[b] = th
			}
			for _, l := range other.Buffers {
				b := string(code.Buffer(l))
				if was, ok := buffers[b]; ok && !slices.Equal(was, l) {
					t.Fatalf("two buffers have the same octets:\n%+v\n%+v", was, l)
				}
				buffers[b] = l
			}
			other.Threads, other.Buffers = nil, nil
			b := string(code.Shared(other))
			if was, ok := shares[b]; ok && !reflect.DeepEqual(was, other) {
				t.Fatalf("what two share has the same octets:\n%+v\n%+v", was, other)
			}
			shares[b] = other
		}
	}
}

// P28.3: a state is told by its octets: read from the front on, they give all of it back.
func TestReadBack(t *testing.T) {
	for _, s := range append(states(43, 3000), full(4, 4)) {
		r := reader{octets: code.Put(s)}
		got := r.state()
		if !reflect.DeepEqual(got, copied(s)) || len(r.octets) != 0 {
			t.Fatalf("%+v was read back as %+v", s, got)
		}
	}
}
