package decode

import (
	"anvil/api"
	"anvil/opcode"
)

// The f7 that tell operations with one opcode and one f3 apart.
const (
	plainF7   = 0
	productF7 = 1
	otherF7   = 32

	// amountBit is the bit of f7 that belongs to the amount of a shift by up to 63.
	amountBit = 1
)

// What else tells an operation.
const (
	systemF3 = 0
	wordF3   = 2
	doubleF3 = 3
	lrKind   = 2 // raw[31:27]
)

// The instructions that are one raw each.
const (
	rawEcall  = 0x00000073
	rawEbreak = 0x00100073
	rawMret   = 0x30200073
	rawWfi    = 0x10500073
)

// operation is what a long instruction does; api.OpIllegal, if it is none.
func operation(raw uint32) int {
	f3, f7 := part(raw, 14, 12), part(raw, 31, 25)
	switch part(raw, 6, 0) {
	case opcode.Lui:
		return api.OpLui
	case opcode.Auipc:
		return api.OpAuipc
	case opcode.Jal:
		return api.OpJal
	case opcode.Jalr:
		return jumps()[f3]
	case opcode.Branch:
		return branches()[f3]
	case opcode.Load:
		return loads()[f3]
	case opcode.Store:
		return stores()[f3]
	case opcode.Immediate:
		if isShift(f3) {
			return pick(f7&^amountBit, shifts()[f3], otherShifts()[f3], api.OpIllegal)
		}
		return immediates()[f3]
	case opcode.ImmediateWord:
		if isShift(f3) {
			return pick(f7, wordShifts()[f3], otherWordShifts()[f3], api.OpIllegal)
		}
		return immediateWords()[f3]
	case opcode.Register:
		return pick(f7, plains()[f3], others()[f3], products()[f3])
	case opcode.RegisterWord:
		return pick(f7, plainWords()[f3], otherWords()[f3], productWords()[f3])
	case opcode.Fence:
		return fences()[f3]
	case opcode.System:
		return systemOp(raw, f3)
	case opcode.Atomic:
		return atomicOp(raw, f3)
	}
	return api.OpIllegal
}

// isShift tells whether an operation with an immediate is a shift: its amount is shorter than an immediate and leaves bits of f7 that tell which.
func isShift(f3 int) bool {
	return f3 == 1 || f3 == 5
}

// pick is the one of three operations that f7 tells; api.OpIllegal, if it tells none.
func pick(f7, plain, other, product int) int {
	switch f7 {
	case plainF7:
		return plain
	case otherF7:
		return other
	case productF7:
		return product
	}
	return api.OpIllegal
}

func systemOp(raw uint32, f3 int) int {
	if f3 != systemF3 {
		return csrs()[f3]
	}
	switch raw {
	case rawEcall:
		return api.OpEcall
	case rawEbreak:
		return api.OpEbreak
	case rawMret:
		return api.OpMret
	case rawWfi:
		return api.OpWfi
	}
	return api.OpIllegal
}

func atomicOp(raw uint32, f3 int) int {
	kind := part(raw, 31, 27)
	if kind == lrKind && part(raw, 24, 20) != 0 {
		return api.OpIllegal
	}
	switch f3 {
	case wordF3:
		return atomicWords()[kind]
	case doubleF3:
		return atomicDoubles()[kind]
	}
	return api.OpIllegal
}
