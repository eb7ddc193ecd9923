package speak

import (
	"strings"

	"anvil/api"
)

// order is the end of an atomic's name that tells Aq and Rl.
type order struct {
	end    string
	aq, rl bool
}

func orders() []order {
	return []order{{"", false, false}, {".aq", true, false}, {".rl", false, true}, {".aqrl", true, true}}
}

// longForm is that of a record of four bytes.
func longForm(in api.Instr) form {
	name := operationNames()[in.Op]
	for _, o := range orders() {
		if in.Aq == o.aq && in.Rl == o.rl {
			name += o.end
		}
	}
	return form{name: name, operands: longOperands(in.Op), start: api.Instr{Op: in.Op, Aq: in.Aq, Rl: in.Rl}}
}

// longNamed is what a name of four bytes says; false: there is none such.
func longNamed(name string) (api.Instr, bool) {
	for _, o := range orders() {
		base, cut := strings.CutSuffix(name, o.end)
		op := operationNamed(base)
		if cut && op != api.OpIllegal && (o.end == "" || isAtomic(op)) {
			return api.Instr{Op: op, Aq: o.aq, Rl: o.rl}, true
		}
	}
	return api.Instr{}, false
}

// operationNamed is the operation of a name; OpIllegal, which has none, if there is none such.
func operationNamed(name string) int {
	for op, own := range operationNames() {
		if op != api.OpIllegal && name == own {
			return op
		}
	}
	return api.OpIllegal
}

// isAtomic: the atomics are the last of all operations.
func isAtomic(op int) bool { return op >= api.OpLrW }

// longOperands is the rows of the document's table.
func longOperands(op int) []operand {
	toRd, first, second := register{rd, all}, register{rs1, all}, register{rs2, all}
	switch op {
	case api.OpLui, api.OpAuipc:
		return []operand{toRd, upper{}}
	case api.OpJal:
		return []operand{toRd, target{}}
	case api.OpJalr, api.OpLb, api.OpLh, api.OpLw, api.OpLd, api.OpLbu, api.OpLhu, api.OpLwu:
		return []operand{toRd, place{first}}
	case api.OpBeq, api.OpBne, api.OpBlt, api.OpBge, api.OpBltu, api.OpBgeu:
		return []operand{first, second, target{}}
	case api.OpSb, api.OpSh, api.OpSw, api.OpSd:
		return []operand{second, place{first}}
	case api.OpAddi, api.OpSlti, api.OpSltiu, api.OpXori, api.OpOri, api.OpAndi, api.OpAddiw,
		api.OpSlli, api.OpSrli, api.OpSrai, api.OpSlliw, api.OpSrliw, api.OpSraiw:
		return []operand{toRd, first, signed{}}
	case api.OpFence:
		return []operand{letters{aheadAt}, letters{behindAt}}
	case api.OpFenceI, api.OpEcall, api.OpEbreak, api.OpMret, api.OpWfi:
		return nil
	case api.OpCsrrw, api.OpCsrrs, api.OpCsrrc:
		return []operand{toRd, csr{}, first}
	case api.OpCsrrwi, api.OpCsrrsi, api.OpCsrrci:
		return []operand{toRd, csr{}, five{}}
	case api.OpLrW, api.OpLrD:
		return []operand{toRd, address{first}}
	}
	if isAtomic(op) {
		return []operand{toRd, second, address{first}}
	}
	return []operand{toRd, first, second}
}

func operationNames() [api.Ops]string {
	return [api.Ops]string{
		api.OpLui: "lui", api.OpAuipc: "auipc", api.OpJal: "jal", api.OpJalr: "jalr",
		api.OpBeq: "beq", api.OpBne: "bne", api.OpBlt: "blt", api.OpBge: "bge", api.OpBltu: "bltu", api.OpBgeu: "bgeu",
		api.OpLb: "lb", api.OpLh: "lh", api.OpLw: "lw", api.OpLd: "ld", api.OpLbu: "lbu", api.OpLhu: "lhu", api.OpLwu: "lwu",
		api.OpSb: "sb", api.OpSh: "sh", api.OpSw: "sw", api.OpSd: "sd",
		api.OpAddi: "addi", api.OpSlti: "slti", api.OpSltiu: "sltiu", api.OpXori: "xori", api.OpOri: "ori", api.OpAndi: "andi",
		api.OpSlli: "slli", api.OpSrli: "srli", api.OpSrai: "srai",
		api.OpAddiw: "addiw", api.OpSlliw: "slliw", api.OpSrliw: "srliw", api.OpSraiw: "sraiw",
		api.OpAdd: "add", api.OpSub: "sub", api.OpSll: "sll", api.OpSlt: "slt", api.OpSltu: "sltu",
		api.OpXor: "xor", api.OpSrl: "srl", api.OpSra: "sra", api.OpOr: "or", api.OpAnd: "and",
		api.OpAddw: "addw", api.OpSubw: "subw", api.OpSllw: "sllw", api.OpSrlw: "srlw", api.OpSraw: "sraw",
		api.OpFence: "fence", api.OpFenceI: "fence.i",
		api.OpEcall: "ecall", api.OpEbreak: "ebreak", api.OpMret: "mret", api.OpWfi: "wfi",
		api.OpCsrrw: "csrrw", api.OpCsrrs: "csrrs", api.OpCsrrc: "csrrc",
		api.OpCsrrwi: "csrrwi", api.OpCsrrsi: "csrrsi", api.OpCsrrci: "csrrci",
		api.OpMul: "mul", api.OpMulh: "mulh", api.OpMulhsu: "mulhsu", api.OpMulhu: "mulhu",
		api.OpDiv: "div", api.OpDivu: "divu", api.OpRem: "rem", api.OpRemu: "remu",
		api.OpMulw: "mulw", api.OpDivw: "divw", api.OpDivuw: "divuw", api.OpRemw: "remw", api.OpRemuw: "remuw",
		api.OpLrW: "lr.w", api.OpScW: "sc.w", api.OpAmoswapW: "amoswap.w", api.OpAmoaddW: "amoadd.w",
		api.OpAmoxorW: "amoxor.w", api.OpAmoandW: "amoand.w", api.OpAmoorW: "amoor.w", api.OpAmominW: "amomin.w",
		api.OpAmomaxW: "amomax.w", api.OpAmominuW: "amominu.w", api.OpAmomaxuW: "amomaxu.w",
		api.OpLrD: "lr.d", api.OpScD: "sc.d", api.OpAmoswapD: "amoswap.d", api.OpAmoaddD: "amoadd.d",
		api.OpAmoxorD: "amoxor.d", api.OpAmoandD: "amoand.d", api.OpAmoorD: "amoor.d", api.OpAmominD: "amomin.d",
		api.OpAmomaxD: "amomax.d", api.OpAmominuD: "amominu.d", api.OpAmomaxuD: "amomaxu.d",
	}
}
