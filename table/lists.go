package table

// lists has a list of anything under each key. Lists that nobody made are empty, and have no map to which something could be added.
type lists[K comparable, V any] struct {
	under map[K][]V
}

func newLists[K comparable, V any]() lists[K, V] {
	return lists[K, V]{under: map[K][]V{}}
}

func (l lists[K, V]) made() bool {
	return l.under != nil
}

// keys answers how many keys have a list.
func (l lists[K, V]) keys() int {
	return len(l.under)
}

// add has v come last under the key.
func (l lists[K, V]) add(key K, v V) {
	l.under[key] = append(l.under[key], v)
}

// find answers the first one under the key of which is tells that it is looked for.
func (l lists[K, V]) find(key K, is func(V) bool) (V, bool) {
	for _, v := range l.under[key] {
		if is(v) {
			return v, true
		}
	}
	var none V
	return none, false
}
