package encode_test

import (
	"testing"

	"anvil/api"
)

// The examples of section 6.2, by their numbers.

func TestExample1OfEncode(t *testing.T) {
	is(t, api.Instr{Op: api.OpAddi, Rd: 1, Imm: 1}, 0x00100093, 0x4085, true)
}

func TestExample2OfEncode(t *testing.T) {
	is(t, api.Instr{Op: api.OpAdd, Rd: 1, Rs2: 2}, 0x002000b3, 0x808a, true)
	is(t, api.Instr{Op: api.OpAdd, Rd: 1, Rs1: 1, Rs2: 2}, 0x002080b3, 0x908a, true)
}

func TestExample3OfEncode(t *testing.T) {
	is(t, api.Instr{Op: api.OpAddi}, 0x00000013, 0x0001, true)
}

func TestExample4OfEncode(t *testing.T) {
	is(t, api.Instr{Op: api.OpAddi, Rd: 2, Rs1: 2, Imm: 16}, 0x01010113, 0x0141, true)
	is(t, api.Instr{Op: api.OpAddi, Rd: 2, Rs1: 2, Imm: 32}, 0x02010113, 0x6105, true)
}

func TestExample5OfEncode(t *testing.T) {
	is(t, api.Instr{Op: api.OpLw, Rd: 8, Rs1: 9, Imm: 4}, 0x0044a403, 0x40c0, true)
	is(t, api.Instr{Op: api.OpLw, Rd: 1, Rs1: 9, Imm: 4}, 0x0044a083, 0, false)
}

func TestExample6OfEncode(t *testing.T) {
	is(t, api.Instr{Op: api.OpJal, Rd: 1, Imm: 4}, 0x004000ef, 0, false)
	is(t, api.Instr{Op: api.OpJal, Imm: 4}, 0x0040006f, 0xa011, true)
	isNone(t, api.Instr{Op: api.OpJal, Imm: 3}, api.ErrReach)
	isNone(t, api.Instr{Op: api.OpJal, Imm: 1 << 20}, api.ErrReach)
}

func TestExample7OfEncode(t *testing.T) {
	isNone(t, api.Instr{Op: api.OpAddi, Rd: 32}, api.ErrInstr)
	isNone(t, api.Instr{Op: api.OpAddi, Rs2: 1}, api.ErrInstr)
	isNone(t, api.Instr{Op: api.OpAddi, Rd: 32, Imm: 4000}, api.ErrInstr)
	isNone(t, api.Instr{Op: api.OpAddi, Imm: 2048}, api.ErrReach)
	isNone(t, api.Instr{Op: api.OpLui, Imm: 1}, api.ErrReach)
	isNone(t, api.Instr{Op: api.OpIllegal}, api.ErrInstr)
	isNone(t, api.Instr{Op: api.OpAdd, Aq: true}, api.ErrInstr)
}

func TestExample8OfEncode(t *testing.T) {
	is(t, api.Instr{Op: api.OpEbreak}, 0x00100073, 0x9002, true)
	isNone(t, api.Instr{Op: api.OpEbreak, Rd: 1}, api.ErrInstr)
}
