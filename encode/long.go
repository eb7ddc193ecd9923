package encode

import (
	"anvil/api"
	"anvil/opcode"
)

// Where the parts of an instruction begin that tell operations of one opcode apart.
const (
	atF3     = 12
	atSystem = 20 // raw[31:20]
	atF7     = 25
	atKind   = 27 // raw[31:27]
)

// What such parts are.
const (
	other   = 32 << atF7
	product = 1 << atF7
	word    = 2 << atF3
	double  = 3 << atF3
)

// family is operations of one shape that one part tells apart: that part begins at bit at, and is an operation's place in the list (OpIllegal: it tells none).
type family struct {
	bits       uint32
	at         int
	shape      func() shape
	operations []int
}

// longForms is the forms of 32 bits, by operation.
func longForms() map[int]form {
	all := make(map[int]form, api.Ops)
	for _, families := range [][]family{jumps(), memory(), immediates(), registers(), systems(), atomics()} {
		for _, f := range families {
			for part, op := range f.operations {
				if op != api.OpIllegal {
					all[op] = form{f.bits | uint32(part)<<f.at, f.shape}
				}
			}
		}
	}
	return all
}

func jumps() []family {
	return []family{
		{opcode.Lui, atF3, shapeU, []int{api.OpLui}},
		{opcode.Auipc, atF3, shapeU, []int{api.OpAuipc}},
		{opcode.Jal, atF3, shapeJ, []int{api.OpJal}},
		{opcode.Jalr, atF3, shapeI, []int{api.OpJalr}},
		{opcode.Branch, atF3, shapeB, []int{api.OpBeq, api.OpBne, 4: api.OpBlt, api.OpBge, api.OpBltu, api.OpBgeu}},
	}
}

func memory() []family {
	return []family{
		{opcode.Load, atF3, shapeI, []int{api.OpLb, api.OpLh, api.OpLw, api.OpLd, api.OpLbu, api.OpLhu, api.OpLwu}},
		{opcode.Store, atF3, shapeS, []int{api.OpSb, api.OpSh, api.OpSw, api.OpSd}},
	}
}

func immediates() []family {
	return []family{
		{opcode.Immediate, atF3, shapeI, []int{api.OpAddi, 2: api.OpSlti, api.OpSltiu, api.OpXori, 6: api.OpOri, api.OpAndi}},
		{opcode.Immediate, atF3, shapeAmount, []int{1: api.OpSlli, 5: api.OpSrli}},
		{opcode.Immediate | other, atF3, shapeAmount, []int{5: api.OpSrai}},
		{opcode.ImmediateWord, atF3, shapeI, []int{api.OpAddiw}},
		{opcode.ImmediateWord, atF3, shapeWordAmount, []int{1: api.OpSlliw, 5: api.OpSrliw}},
		{opcode.ImmediateWord | other, atF3, shapeWordAmount, []int{5: api.OpSraiw}},
	}
}

func registers() []family {
	return []family{
		{opcode.Register, atF3, shapeR, []int{api.OpAdd, api.OpSll, api.OpSlt, api.OpSltu, api.OpXor, api.OpSrl, api.OpOr, api.OpAnd}},
		{opcode.Register | other, atF3, shapeR, []int{0: api.OpSub, 5: api.OpSra}},
		{opcode.Register | product, atF3, shapeR, []int{api.OpMul, api.OpMulh, api.OpMulhsu, api.OpMulhu, api.OpDiv, api.OpDivu, api.OpRem, api.OpRemu}},
		{opcode.RegisterWord, atF3, shapeR, []int{0: api.OpAddw, 1: api.OpSllw, 5: api.OpSrlw}},
		{opcode.RegisterWord | other, atF3, shapeR, []int{0: api.OpSubw, 5: api.OpSraw}},
		{opcode.RegisterWord | product, atF3, shapeR, []int{0: api.OpMulw, 4: api.OpDivw, api.OpDivuw, api.OpRemw, api.OpRemuw}},
	}
}

func systems() []family {
	return []family{
		{opcode.Fence, atF3, shapeN, []int{api.OpFence, api.OpFenceI}},
		{opcode.System, atSystem, shapeBare, []int{api.OpEcall, api.OpEbreak}},
		{opcode.System | 0x302<<atSystem, atF3, shapeBare, []int{api.OpMret}},
		{opcode.System | 0x105<<atSystem, atF3, shapeBare, []int{api.OpWfi}},
		{opcode.System, atF3, shapeN, []int{1: api.OpCsrrw, api.OpCsrrs, api.OpCsrrc, 5: api.OpCsrrwi, api.OpCsrrsi, api.OpCsrrci}},
	}
}

func atomics() []family {
	return []family{
		{opcode.Atomic | word, atKind, shapeLr, []int{2: api.OpLrW}},
		{opcode.Atomic | double, atKind, shapeLr, []int{2: api.OpLrD}},
		{opcode.Atomic | word, atKind, shapeAtomic, []int{
			0: api.OpAmoaddW, 1: api.OpAmoswapW, 3: api.OpScW, 4: api.OpAmoxorW, 8: api.OpAmoorW, 12: api.OpAmoandW,
			16: api.OpAmominW, 20: api.OpAmomaxW, 24: api.OpAmominuW, 28: api.OpAmomaxuW,
		}},
		{opcode.Atomic | double, atKind, shapeAtomic, []int{
			0: api.OpAmoaddD, 1: api.OpAmoswapD, 3: api.OpScD, 4: api.OpAmoxorD, 8: api.OpAmoorD, 12: api.OpAmoandD,
			16: api.OpAmominD, 20: api.OpAmomaxD, 24: api.OpAmominuD, 28: api.OpAmomaxuD,
		}},
	}
}
