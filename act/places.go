package act

import (
	"warrener/api"
	"warrener/tag"
)

// at answers the place of that kind with those numbers, I ahead of J; the others are 0.
func at(kind int, numbers ...int) api.Place {
	x := api.Place{Kind: kind}
	to := [2]*int{&x.I, &x.J}
	for i, n := range numbers {
		*to[i] = n
	}
	return x
}

// field answers the field f of the cell to which w points; the empty place where it points to none.
func field(w api.Word, f int) api.Place {
	if !tag.Is(w) {
		return api.Place{}
	}
	return at(api.PlField, w.Cell, f)
}

// heads answers the heads of the cells.
func heads(cells ...int) []api.Place {
	var l []api.Place
	for _, cell := range cells {
		l = append(l, at(api.PlHead, cell))
	}
	return l
}

// whole answers the heads and the fields of the cells.
func whole(cells ...int) []api.Place {
	l := heads(cells...)
	for _, cell := range cells {
		for f := range api.Fields {
			l = append(l, at(api.PlField, cell, f))
		}
	}
	return l
}

// freed answers what is no more as it was when the cells are free: which ones are, and all of each.
func freed(cells ...int) []api.Place {
	return append(whole(cells...), at(api.PlHeap))
}
