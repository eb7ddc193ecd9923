package encode

import (
	"anvil/api"
	"anvil/layout"
)

// form is how an operation is written: the bits that tell it, and the shape of the rest.
type form struct {
	bits  uint32
	shape func() shape
}

// shape is where instructions have their fields, and which numbers Imm may be.
type shape struct {
	layout.Fields
	ordered bool // Aq and Rl are there
	reach   reach
}

// reach is the least and the greatest of some numbers, and what all of them are multiples of.
type reach struct{ least, greatest, step int64 }

// The bits that Aq and Rl are.
const (
	bitAq = 1 << 26
	bitRl = 1 << 25
)

// registerCount is how many registers there are.
const registerCount = 32

// lay is a record's instruction in this form.
func (f form) lay(in api.Instr) uint32 {
	s := f.shape()
	raw := f.bits | s.Lay(in)
	if in.Aq {
		raw |= bitAq
	}
	if in.Rl {
		raw |= bitRl
	}
	return raw
}

// holds tells whether a record has nothing that is not there in the shape, and no register that is none.
func (s shape) holds(in api.Instr) bool {
	registers := names(s.Rd, in.Rd) && names(s.Rs1, in.Rs1) && names(s.Rs2, in.Rs2)
	number := s.Imm != nil || in.Imm == 0
	order := s.ordered || !in.Aq && !in.Rl
	return registers && number && order
}

// names tells whether a register can stand somewhere.
func names(at layout.Layout, register int) bool {
	if at == nil {
		return register == 0
	}
	return register >= 0 && register < registerCount
}

// reaches tells whether Imm, where it is there, is one that it can be.
func (s shape) reaches(imm int64) bool {
	r := s.reach
	return s.Imm == nil || imm >= r.least && imm <= r.greatest && imm%r.step == 0
}

// signed is the reach of numbers of so many bits with a sign.
func signed(bits int, step int64) reach {
	return reach{-1 << (bits - 1), 1<<(bits-1) - step, step}
}

// unsigned is the reach of numbers of so many bits without one.
func unsigned(bits int) reach {
	return reach{0, 1<<bits - 1, 1}
}
