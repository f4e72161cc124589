package arena

import "slices"

// past is what was there ahead of each change, the first change first.
type past[T any] struct {
	were []T
}

// keep has one more change be the last.
func (p *past[T]) keep(was T) {
	p.were = append(p.were, was)
}

// count is how many changes there were.
func (p *past[T]) count() int {
	return len(p.were)
}

// back answers what was there ahead of the last change, which goes. There must be one.
func (p *past[T]) back() T {
	last := p.count() - 1
	was := p.were[last]
	p.were = p.were[:last]
	return was
}

// apart is the same past, in memory of its own.
func (p *past[T]) apart() *past[T] {
	return &past[T]{were: slices.Clone(p.were)}
}
