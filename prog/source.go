package prog

import (
	"warrener/api"
	"warrener/instr"
	"warrener/num"
	"warrener/octet"
)

// source is the octets of a program, read from the front on. Whatever is wrong ends the reading by a panic with a fault.
type source struct {
	*octet.Reader
}

// fault is what is wrong, and the place of the first octet at which it is.
type fault struct {
	at  int
	why api.Errno
}

// prog reads a program, behind which nothing may be left.
func (s source) prog() api.Prog {
	s.number(first, first, api.ErrForm)
	p := api.Prog{
		Roots: s.number(0, api.MaxRoots, api.ErrRange),
		Cells: s.number(0, api.MaxCells, api.ErrRange),
		Slots: s.number(0, api.MaxSlots, api.ErrRange),
	}
	p.Code = make([][]api.Instr, s.number(1, api.MaxThreads, api.ErrMany))
	for i := range p.Code {
		p.Code[i] = s.thread(p)
	}
	if s.Left() > 0 {
		panic(fault{s.At(), api.ErrForm})
	}
	return p
}

// thread reads how many instructions a thread of the program has, and these.
func (s source) thread(p api.Prog) []api.Instr {
	code := make([]api.Instr, s.number(0, api.MaxCode, api.ErrMany))
	for i := range code {
		code[i] = s.instr(p, len(code))
	}
	return code
}

// instr reads an instruction of the program, in code of so many. What is wrong with it is told at its first octet, but not ahead of an octet that lacks.
func (s source) instr(p api.Prog, code int) api.Instr {
	at := s.At()
	octets := make([]byte, wide)
	for i := range octets {
		octets[i] = byte(s.octet())
	}
	// They are twelve, and so are an instruction, whether it may be or not.
	x, _ := instr.Get(octets)
	if err := instr.Check(x, p, code); err != api.OK {
		panic(fault{at, err})
	}
	return x
}

// number reads a number of one octet, which is from lo to hi; else the error is as told.
func (s source) number(lo int, hi int, why api.Errno) int {
	at := s.At()
	n := s.octet()
	if !num.In(n, lo, hi) {
		panic(fault{at, why})
	}
	return n
}

// octet reads the next octet.
func (s source) octet() int {
	n, ok := s.Num(narrow)
	if !ok {
		panic(fault{s.At(), api.ErrForm})
	}
	return int(n)
}
