package machine

import (
	"warrener/api"
	"warrener/arena"
	"warrener/memory"
	"warrener/tag"
)

// live is the least of what the arena finds through a pointer into a life that is not over.
const live = 2

// shared is what all threads share: the words of a memory, and the cells.
type shared struct {
	words *memory.Memory
	cells *arena.Arena
}

// mark is how often each of both parts was changed.
type mark struct {
	words, cells int
}

// newShared answers what the program's threads share at the beginning.
func newShared(p api.Prog) shared {
	return shared{words: memory.New(p), cells: arena.New(p.Cells)}
}

// apart answers the same, apart from this one.
func (s shared) apart() shared {
	return shared{words: s.words.Clone(), cells: s.cells.Clone()}
}

// at answers the word that stands at the place.
func (s shared) at(x api.Place) api.Word {
	if x.Kind == api.PlField {
		w, _ := s.cells.Load(x.I, x.J)
		return w
	}
	w, _ := s.words.Get(x)
	return w
}

// put has w stand at the place.
func (s shared) put(x api.Place, w api.Word) {
	if x.Kind == api.PlField {
		s.cells.Store(x.I, x.J, w)
	} else {
		s.words.Put(x, w)
	}
}

// swap does the act's swap: if just what is wanted stands at the place, its word stands there then. It tells whether that was so.
func (s shared) swap(a api.Act) bool {
	if !tag.Alike(s.at(a.Place), a.Want) {
		return false
	}
	s.put(a.Place, a.Word)
	return true
}

// mistakes tells whether another word than the one that is wanted stands at the act's place, and can't be told from it by its number.
func (s shared) mistakes(a api.Act) bool {
	w := s.at(a.Place)
	return tag.Equal(w, a.Want) && !tag.Alike(w, a.Want)
}

// lives tells whether the life of a cell to which the place belongs is not over; places that are not in a cell have no life that ends.
func (s shared) lives(x api.Place, gen int) bool {
	return x.Kind != api.PlField || s.cells.Find(tag.To(x.I, gen)) >= live
}

// state answers what is shared of a state.
func (s shared) state() api.State {
	return api.State{
		Roots:  s.words.Roots(),
		Slots:  s.words.Slots(),
		Cells:  s.cells.Cells(),
		Free:   s.cells.List(),
		Epoch:  s.words.Epoch(),
		Marks:  s.words.Marks(),
		Counts: s.words.Counts(),
	}
}

// mark answers how often each part was changed so far.
func (s shared) mark() mark {
	return mark{words: s.words.Mark(), cells: s.cells.Mark()}
}

// back takes back all changes behind the mark.
func (s shared) back(to mark) {
	s.words.Undo(to.words)
	s.cells.Undo(to.cells)
}
