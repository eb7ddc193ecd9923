package decode

import (
	"anvil/api"
	"anvil/arith"
	"anvil/opcode"
)

// Where parts of a long instruction begin.
const (
	atRd        = 7
	atF3        = 12
	atRs1       = 15
	atRs2       = 20
	atImmediate = 20
	atF7        = 25
)

// withFields is a record that has its operation already, with what that operation's raw says beside it.
func withFields(in api.Instr, raw uint32) api.Instr {
	rd, rs1, rs2 := part(raw, 11, 7), part(raw, 19, 15), part(raw, 24, 20)
	switch part(raw, 6, 0) {
	case opcode.Lui, opcode.Auipc:
		in.Rd, in.Imm = rd, immediateU(raw)
	case opcode.Jal:
		in.Rd, in.Imm = rd, immediateJ(raw)
	case opcode.Jalr, opcode.Load:
		in.Rd, in.Rs1, in.Imm = rd, rs1, immediateI(raw)
	case opcode.Immediate, opcode.ImmediateWord:
		in.Rd, in.Rs1, in.Imm = rd, rs1, immediateOrAmount(raw)
	case opcode.Branch:
		in.Rs1, in.Rs2, in.Imm = rs1, rs2, immediateB(raw)
	case opcode.Store:
		in.Rs1, in.Rs2, in.Imm = rs1, rs2, immediateS(raw)
	case opcode.Register, opcode.RegisterWord:
		in.Rd, in.Rs1, in.Rs2 = rd, rs1, rs2
	case opcode.Fence:
		in.Rd, in.Rs1, in.Imm = rd, rs1, immediateN(raw)
	case opcode.System:
		if part(raw, 14, 12) != systemF3 {
			in.Rd, in.Rs1, in.Imm = rd, rs1, immediateN(raw)
		}
	case opcode.Atomic:
		in.Rd, in.Rs1, in.Rs2 = rd, rs1, rs2
		in.Aq, in.Rl = part(raw, 26, 26) == 1, part(raw, 25, 25) == 1
	}
	return in
}

func immediateI(raw uint32) int64 {
	return signed(move(raw, 31, 20, 0), 12)
}

func immediateS(raw uint32) int64 {
	return signed(move(raw, 31, 25, 5)|move(raw, 11, 7, 0), 12)
}

func immediateB(raw uint32) int64 {
	return signed(move(raw, 31, 31, 12)|move(raw, 7, 7, 11)|move(raw, 30, 25, 5)|move(raw, 11, 8, 1), 13)
}

func immediateU(raw uint32) int64 {
	return signed(move(raw, 31, 12, 12), 32)
}

func immediateJ(raw uint32) int64 {
	return signed(move(raw, 31, 31, 20)|move(raw, 19, 12, 12)|move(raw, 20, 20, 11)|move(raw, 30, 21, 1), 21)
}

func immediateN(raw uint32) int64 {
	return int64(part(raw, 31, 20))
}

// immediateOrAmount: a shift has its amount where others have their immediate. Of a shift of halves raw[25] is 0, so that its five bits are these six too.
func immediateOrAmount(raw uint32) int64 {
	if isShift(part(raw, 14, 12)) {
		return int64(part(raw, 25, 20))
	}
	return immediateI(raw)
}

// place is a number where an instruction of an opcode has it: the way back from the immediates above.
func place(code int, n uint32) uint32 {
	switch code {
	case opcode.Lui:
		return move(n, 31, 12, 12)
	case opcode.Jal:
		return move(n, 20, 20, 31) | move(n, 19, 12, 12) | move(n, 11, 11, 20) | move(n, 10, 1, 21)
	case opcode.Branch:
		return move(n, 12, 12, 31) | move(n, 11, 11, 7) | move(n, 10, 5, 25) | move(n, 4, 1, 8)
	case opcode.Store:
		return move(n, 11, 5, 25) | move(n, 4, 0, 7)
	}
	return n << atImmediate
}

// part is the bits hi down to lo, as a number.
func part(raw uint32, hi, lo int) int {
	return int(arith.Bits(uint64(raw), hi, lo))
}

// move is the bits hi down to lo, put where the lowest of them is bit to.
func move(raw uint32, hi, lo, to int) uint32 {
	return uint32(arith.Bits(uint64(raw), hi, lo)) << to
}

// signed is a number of so many bits with its sign.
func signed(n uint32, bits int) int64 {
	return int64(arith.Extend(uint64(n), bits))
}
