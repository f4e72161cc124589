package asm

import (
	"strings"

	"warrener/api"
	"warrener/lines"
	"warrener/prog"
)

// The words that a program's text, and each thread of it, begin with.
const (
	first = "warrener"
	begin = "thread"
)

// remark begins a line that is left out.
const remark = "#"

// text is what a program's lines told so far, and whether the first one was among them.
type text struct {
	begun bool
	p     api.Prog
}

// line reads the words of one more line.
func (t *text) line(words []string) api.Errno {
	switch {
	case len(words) == 0 || strings.HasPrefix(words[0], remark):
		return api.OK
	case !t.begun:
		return t.head(words)
	case len(words) == 1 && words[0] == begin:
		return t.thread()
	case len(t.p.Code) == 0:
		return api.ErrState
	default:
		return t.instr(words)
	}
}

// head reads the first line.
func (t *text) head(words []string) api.Errno {
	var numbers [3]int
	if len(words) != 1+len(numbers) || words[0] != first {
		return api.ErrForm
	}
	for i, word := range words[1:] {
		n, ok := lines.Small(word, most)
		if !ok {
			return api.ErrForm
		}
		numbers[i] = n
	}
	t.begun = true
	t.p.Roots, t.p.Cells, t.p.Slots = numbers[0], numbers[1], numbers[2]
	return api.OK
}

// thread begins a thread.
func (t *text) thread() api.Errno {
	if len(t.p.Code) == api.MaxThreads {
		return api.ErrMany
	}
	t.p.Code = append(t.p.Code, nil)
	return api.OK
}

// instr reads an instruction of the thread that began last.
func (t *text) instr(words []string) api.Errno {
	x, err := instr(words)
	if err != api.OK {
		return err
	}
	last := len(t.p.Code) - 1
	if len(t.p.Code[last]) == api.MaxCode {
		return api.ErrMany
	}
	t.p.Code[last] = append(t.p.Code[last], x)
	return api.OK
}

// end answers what is wrong with the lines as a whole. What operands may be is told just here, for a place in the code is held against how many instructions its thread has in the end.
func (t *text) end() api.Errno {
	if !t.begun {
		return api.ErrForm
	}
	return prog.Check(t.p)
}
