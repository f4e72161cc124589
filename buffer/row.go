package buffer

// row is a row of anything: a channel that has room for what waits. Each send and each receipt is one of a select with a default, so that nobody waits for it.
// A row that nobody made is no channel: nothing can be sent to it, nor received from it, and it has no room.
type row[T any] chan T

func newRow[T any](room int) row[T] {
	return make(row[T], room)
}

func (r row[T]) made() bool {
	return r != nil
}

func (r row[T]) length() int {
	return len(r)
}

// size is how many the row has room for in all, those that wait among them.
func (r row[T]) size() int {
	return cap(r)
}

func (r row[T]) put(v T) bool {
	select {
	case r <- v:
		return true
	default:
		return false
	}
}

func (r row[T]) take() (T, bool) {
	select {
	case v := <-r:
		return v, true
	default:
		var none T
		return none, false
	}
}

// all has the whole row go round once: each that is taken from the front comes last again, so that behind the last one the row is as it was.
func (r row[T]) all() []T {
	l := make([]T, 0, r.length())
	for range r.length() {
		v, _ := r.take()
		r.put(v)
		l = append(l, v)
	}
	return l
}
