package act

import (
	"warrener/api"
	"warrener/foot"
	"warrener/tag"
)

// Foot answers what the act touches under that order of memory, gone being what it lets go of.
func Foot(order int, a api.Act, gone []api.Bagged) api.Foot {
	return foot.Of(reads(a), writes(order, a, gone))
}

// reads answers the places that the act reads, in any order.
func reads(a api.Act) []api.Place {
	switch a.Kind {
	case api.ActRead, api.ActSwap:
		return append(heads(pointed(a.At)...), told(a.Place)...)
	case api.ActWrite:
		return heads(pointed(a.At)...)
	case api.ActFlush:
		return heads(holder(a.Place)...)
	case api.ActScan:
		return []api.Place{a.Place}
	}
	return nil
}

// writes answers the places that the act writes, in any order. A store that waits in a buffer has written nothing yet: that is done by the flush.
// A cell that goes out is not told: it was nobody's, and whoever points to it points to an earlier life.
func writes(order int, a api.Act, gone []api.Bagged) []api.Place {
	switch a.Kind {
	case api.ActSwap:
		return told(a.Place)
	case api.ActWrite:
		if order == api.SC {
			return told(a.Place)
		}
	case api.ActFlush:
		return []api.Place{a.Place}
	case api.ActAlloc:
		return []api.Place{at(api.PlHeap)}
	case api.ActFree:
		if tag.Is(a.At) {
			return freed(a.At.Cell)
		}
	case api.ActRetire:
		return heads(pointed(a.At)...)
	case api.ActRelease:
		return freed(cellsOf(gone)...)
	}
	return nil
}

// told answers the place alone; nothing of the empty one, which an act has that goes through a word that is no pointer.
func told(x api.Place) []api.Place {
	if x.Kind == 0 {
		return nil
	}
	return []api.Place{x}
}

// pointed answers the cell to which w points alone; nothing where it points to none.
func pointed(w api.Word) []int {
	if !tag.Is(w) {
		return nil
	}
	return []int{w.Cell}
}

// holder answers the cell whose field the place is alone; nothing where it is no field.
func holder(x api.Place) []int {
	if x.Kind != api.PlField {
		return nil
	}
	return []int{x.I}
}

// cellsOf answers the cells of those that are gone.
func cellsOf(gone []api.Bagged) []int {
	var l []int
	for _, b := range gone {
		l = append(l, b.Cell)
	}
	return l
}
