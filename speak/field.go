package speak

import "anvil/api"

// field is where in a record a register goes.
type field int

// The fields. both: the register is read and written.
const (
	rd field = iota
	rs1
	rs2
	both
)

// of is the register that a record has there.
func (f field) of(in api.Instr) int {
	switch f {
	case rs1:
		return in.Rs1
	case rs2:
		return in.Rs2
	}
	return in.Rd
}

// put puts a register there.
func (f field) put(in *api.Instr, n int) {
	switch f {
	case rd:
		in.Rd = n
	case rs1:
		in.Rs1 = n
	case rs2:
		in.Rs2 = n
	case both:
		in.Rd, in.Rs1 = n, n
	}
}

// group is the registers that a form has somewhere.
type group int

// The groups. few: those of three bits.
const (
	all group = iota
	few
	stack
	notZero
	notStack
)

// has tells whether a register is one of the group.
func (g group) has(n int) bool {
	switch g {
	case few:
		return n >= s0 && n <= a5
	case stack:
		return n == sp
	case notZero:
		return n != zero
	case notStack:
		return n != sp
	}
	return true
}
