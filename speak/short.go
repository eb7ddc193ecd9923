package speak

import (
	"slices"

	"anvil/api"
)

// The bits of a parcel that tell its name: those that tell every one, and those that tell some beside them.
const (
	bitsOfAll = 0xe003 // p[15:13] and p[1:0]
	bitTop    = 0x1000 // p[12]
	bitsR     = 0x0f80 // p[11:7]
	bitsSix   = 0x107c // p[12] and p[6:2]
)

// atF is where p[15:13] begins.
const atF = 13

// shortForms is the rows of the document's table. Where two take one parcel, the first counts.
func shortForms() []form {
	return slices.Concat(formsOf0(), formsOf1(), formsOfArith(), formsOf2(), formsOfHeads())
}

// short is a form that its operation and the bits of all tell.
func short(name string, op int, is uint16, operands ...operand) form {
	return form{name: name, operands: operands, start: api.Instr{Op: op}, mask: bitsOfAll, is: is}
}

// told is a form that more bits tell.
func (f form) told(mask, is uint16) form {
	f.mask |= mask
	f.is |= is
	return f
}

// formsOf0 is those with the low bits 00.
func formsOf0() []form {
	load := []operand{register{rd, few}, place{register{rs1, few}}}
	store := []operand{register{rs2, few}, place{register{rs1, few}}}
	return []form{
		short("c.addi4spn", api.OpAddi, 0|0<<atF, register{rd, few}, register{rs1, stack}, signed{}),
		short("c.lw", api.OpLw, 0|2<<atF, load...),
		short("c.ld", api.OpLd, 0|3<<atF, load...),
		short("c.sw", api.OpSw, 0|6<<atF, store...),
		short("c.sd", api.OpSd, 0|7<<atF, store...),
	}
}

// formsOf1 is those with the low bits 01, but for formsOfArith.
func formsOf1() []form {
	step := []operand{register{both, notZero}, signed{}}
	branch := []operand{register{rs1, few}, target{}}
	return []form{
		short("c.nop", api.OpAddi, 1|0<<atF).told(bitsR|bitsSix, 0),
		short("c.nop", api.OpAddi, 1|0<<atF, signed{}).told(bitsR, 0),
		short("c.addi", api.OpAddi, 1|0<<atF, step...),
		short("c.addiw", api.OpAddiw, 1|1<<atF, step...),
		short("c.li", api.OpAddi, 1|2<<atF, register{rd, all}, signed{}),
		short("c.addi16sp", api.OpAddi, 1|3<<atF, register{both, stack}, signed{}),
		short("c.lui", api.OpLui, 1|3<<atF, register{rd, notStack}, upper{}),
		short("c.j", api.OpJal, 1|5<<atF, target{}),
		short("c.beqz", api.OpBeq, 1|6<<atF, branch...),
		short("c.bnez", api.OpBne, 1|7<<atF, branch...),
	}
}

// formsOfArith is those with the low bits 01 and 100 above: operations tell all of them apart.
func formsOfArith() []form {
	const is = 1 | 4<<atF
	number := []operand{register{both, few}, signed{}}
	pair := []operand{register{both, few}, register{rs2, few}}
	return []form{
		short("c.srli", api.OpSrli, is, number...),
		short("c.srai", api.OpSrai, is, number...),
		short("c.andi", api.OpAndi, is, number...),
		short("c.sub", api.OpSub, is, pair...),
		short("c.xor", api.OpXor, is, pair...),
		short("c.or", api.OpOr, is, pair...),
		short("c.and", api.OpAnd, is, pair...),
		short("c.subw", api.OpSubw, is, pair...),
		short("c.addw", api.OpAddw, is, pair...),
	}
}

// formsOf2 is those with the low bits 10, but for formsOfHeads.
func formsOf2() []form {
	load := []operand{register{rd, notZero}, place{register{rs1, stack}}}
	store := []operand{register{rs2, all}, place{register{rs1, stack}}}
	return []form{
		short("c.slli", api.OpSlli, 2|0<<atF, register{both, all}, signed{}),
		short("c.lwsp", api.OpLw, 2|2<<atF, load...),
		short("c.ldsp", api.OpLd, 2|3<<atF, load...),
		short("c.swsp", api.OpSw, 2|6<<atF, store...),
		short("c.sdsp", api.OpSd, 2|7<<atF, store...),
	}
}

// formsOfHeads is those with the low bits 10 and 100 above: bit 12 tells apart what two operations have.
func formsOfHeads() []form {
	const is = 2 | 4<<atF
	to := register{rs1, notZero}
	link := short("c.jalr", api.OpJalr, is, to).told(bitTop, bitTop)
	link.start.Rd = ra
	return []form{
		short("c.jr", api.OpJalr, is, to).told(bitTop, 0),
		link,
		short("c.mv", api.OpAdd, is, register{rd, all}, register{rs2, notZero}).told(bitTop, 0),
		short("c.add", api.OpAdd, is, register{both, all}, register{rs2, notZero}).told(bitTop, bitTop),
		short("c.ebreak", api.OpEbreak, is),
	}
}
