package arena

import (
	"slices"

	"warrener/api"
)

// firstCell is the least number of a cell.
const firstCell = 1

// stock is the cells, cell 1 first, and the row of the free ones. The row's first one stands last, as there it comes and goes without the others being moved.
type stock struct {
	cells []api.Cell
	row   []int
}

// newStock answers so many cells, all free, in a row in their order.
func newStock(cells int) *stock {
	s := &stock{cells: make([]api.Cell, cells)}
	for cell := cells; cell >= firstCell; cell-- {
		s.row = append(s.row, cell)
	}
	return s
}

// at is what the cell is.
func (s *stock) at(cell int) api.Cell {
	return s.cells[cell-firstCell]
}

// set has the cell be what is told: it leaves the row or comes first in it, if it begins or ends to be given out.
// One that leaves is always the row's first: no other is given out, and what was freed is undone the other way round.
func (s *stock) set(cell int, to api.Cell) {
	was := s.at(cell)
	s.cells[cell-firstCell] = to
	switch {
	case was.Status == api.Free && to.Status != api.Free:
		s.row = s.row[:len(s.row)-1]
	case was.Status != api.Free && to.Status == api.Free:
		s.row = append(s.row, cell)
	}
}

// some tells whether a cell is free.
func (s *stock) some() bool {
	return len(s.row) > 0
}

// first is the cell that goes out next. There must be one.
func (s *stock) first() int {
	return s.row[len(s.row)-1]
}

// ahead is the row, the cell that goes out next first.
func (s *stock) ahead() []int {
	l := slices.Clone(s.row)
	slices.Reverse(l)
	return l
}

// apart is the same cells and row, in memory of their own.
func (s *stock) apart() *stock {
	return &stock{cells: slices.Clone(s.cells), row: slices.Clone(s.row)}
}
