package decode_test

import (
	"strings"

	"anvil/api"
)

// The model of section 5.2: a rule an operation, and of each field which of its bits stand where. It serves both ways: from a raw to its record, and from a record to its raw.

// anything stands for an f3 that does not tell the operation.
const anything = -1

// rule is an operation: the parts of a raw that tell it (of the uppermost bits so many), and its fields.
type rule struct {
	op, opcode, f3 int
	upper, is      int
	fields         string
}

// run is some bits of a field that stand together: the highest of them in the raw and in the field, and how many there are.
type run struct{ inRaw, inField, count int }

// field is where a field's bits stand, and how many bits there are if the highest of them is a sign.
type field struct {
	runs   []run
	signed int
}

// laid is where each field stands.
var laid = map[string]field{
	"rd":   {runs: []run{{11, 4, 5}}},
	"rs1":  {runs: []run{{19, 4, 5}}},
	"rs2":  {runs: []run{{24, 4, 5}}},
	"aq":   {runs: []run{{26, 0, 1}}},
	"rl":   {runs: []run{{25, 0, 1}}},
	"I":    {runs: []run{{31, 11, 12}}, signed: 12},
	"S":    {runs: []run{{31, 11, 7}, {11, 4, 5}}, signed: 12},
	"B":    {runs: []run{{31, 12, 1}, {7, 11, 1}, {30, 10, 6}, {11, 4, 4}}, signed: 13},
	"U":    {runs: []run{{31, 31, 20}}, signed: 32},
	"J":    {runs: []run{{31, 20, 1}, {19, 19, 8}, {20, 11, 1}, {30, 10, 10}}, signed: 21},
	"N":    {runs: []run{{31, 11, 12}}},
	"six":  {runs: []run{{25, 5, 6}}},
	"five": {runs: []run{{24, 4, 5}}},
}

// rules are the rows of section 5.2 without those that are one raw each.
func rules() []rule {
	var all []rule
	// by lists operations with the f3 of each.
	by := func(fields string, opcode, upper, is int, ops ...int) {
		for i := 0; i < len(ops); i += 2 {
			all = append(all, rule{ops[i+1], opcode, ops[i], upper, is, fields})
		}
	}
	by("rd U", 0x37, 0, 0, anything, api.OpLui)
	by("rd U", 0x17, 0, 0, anything, api.OpAuipc)
	by("rd J", 0x6f, 0, 0, anything, api.OpJal)
	by("rd rs1 I", 0x67, 0, 0, 0, api.OpJalr)
	by("rs1 rs2 B", 0x63, 0, 0, 0, api.OpBeq, 1, api.OpBne, 4, api.OpBlt, 5, api.OpBge, 6, api.OpBltu, 7, api.OpBgeu)
	by("rd rs1 I", 0x03, 0, 0, 0, api.OpLb, 1, api.OpLh, 2, api.OpLw, 3, api.OpLd, 4, api.OpLbu, 5, api.OpLhu, 6, api.OpLwu)
	by("rs1 rs2 S", 0x23, 0, 0, 0, api.OpSb, 1, api.OpSh, 2, api.OpSw, 3, api.OpSd)
	by("rd rs1 I", 0x13, 0, 0, 0, api.OpAddi, 2, api.OpSlti, 3, api.OpSltiu, 4, api.OpXori, 6, api.OpOri, 7, api.OpAndi)
	by("rd rs1 six", 0x13, 6, 0, 1, api.OpSlli, 5, api.OpSrli)
	by("rd rs1 six", 0x13, 6, 16, 5, api.OpSrai)
	by("rd rs1 I", 0x1b, 0, 0, 0, api.OpAddiw)
	by("rd rs1 five", 0x1b, 7, 0, 1, api.OpSlliw, 5, api.OpSrliw)
	by("rd rs1 five", 0x1b, 7, 32, 5, api.OpSraiw)
	by("rd rs1 rs2", 0x33, 7, 0, 0, api.OpAdd, 1, api.OpSll, 2, api.OpSlt, 3, api.OpSltu, 4, api.OpXor, 5, api.OpSrl, 6, api.OpOr, 7, api.OpAnd)
	by("rd rs1 rs2", 0x33, 7, 32, 0, api.OpSub, 5, api.OpSra)
	by("rd rs1 rs2", 0x33, 7, 1, 0, api.OpMul, 1, api.OpMulh, 2, api.OpMulhsu, 3, api.OpMulhu, 4, api.OpDiv, 5, api.OpDivu, 6, api.OpRem, 7, api.OpRemu)
	by("rd rs1 rs2", 0x3b, 7, 0, 0, api.OpAddw, 1, api.OpSllw, 5, api.OpSrlw)
	by("rd rs1 rs2", 0x3b, 7, 32, 0, api.OpSubw, 5, api.OpSraw)
	by("rd rs1 rs2", 0x3b, 7, 1, 0, api.OpMulw, 4, api.OpDivw, 5, api.OpDivuw, 6, api.OpRemw, 7, api.OpRemuw)
	by("rd rs1 N", 0x0f, 0, 0, 0, api.OpFence, 1, api.OpFenceI)
	by("rd rs1 N", 0x73, 0, 0, 1, api.OpCsrrw, 2, api.OpCsrrs, 3, api.OpCsrrc, 5, api.OpCsrrwi, 6, api.OpCsrrsi, 7, api.OpCsrrci)
	by("rd rs1 aq rl", 0x2f, 5, 2, 2, api.OpLrW, 3, api.OpLrD)
	by("rd rs1 rs2 aq rl", 0x2f, 5, 3, 2, api.OpScW, 3, api.OpScD)
	by("rd rs1 rs2 aq rl", 0x2f, 5, 1, 2, api.OpAmoswapW, 3, api.OpAmoswapD)
	by("rd rs1 rs2 aq rl", 0x2f, 5, 0, 2, api.OpAmoaddW, 3, api.OpAmoaddD)
	by("rd rs1 rs2 aq rl", 0x2f, 5, 4, 2, api.OpAmoxorW, 3, api.OpAmoxorD)
	by("rd rs1 rs2 aq rl", 0x2f, 5, 12, 2, api.OpAmoandW, 3, api.OpAmoandD)
	by("rd rs1 rs2 aq rl", 0x2f, 5, 8, 2, api.OpAmoorW, 3, api.OpAmoorD)
	by("rd rs1 rs2 aq rl", 0x2f, 5, 16, 2, api.OpAmominW, 3, api.OpAmominD)
	by("rd rs1 rs2 aq rl", 0x2f, 5, 20, 2, api.OpAmomaxW, 3, api.OpAmomaxD)
	by("rd rs1 rs2 aq rl", 0x2f, 5, 24, 2, api.OpAmominuW, 3, api.OpAmominuD)
	by("rd rs1 rs2 aq rl", 0x2f, 5, 28, 2, api.OpAmomaxuW, 3, api.OpAmomaxuD)
	return all
}

// alone are the instructions that are one raw each.
var alone = map[int]uint32{api.OpEcall: 0x00000073, api.OpEbreak: 0x00100073, api.OpMret: 0x30200073, api.OpWfi: 0x10500073}

// allRules is made once, since the sweeps ask it often.
var allRules = rules()

// bits are the bits hi down to lo of a raw.
func bits(raw uint32, hi, lo int) int {
	v := 0
	for i := hi; i >= lo; i-- {
		v = 2*v + int(raw>>i%2)
	}
	return v
}

// sx is an n bit number with its sign.
func sx(v int64, n int) int64 {
	if v >= 1<<(n-1) {
		return v - 1<<n
	}
	return v
}

// cut is a field's value in a raw.
func cut(raw uint32, name string) int64 {
	v := int64(0)
	for _, r := range laid[name].runs {
		for k := range r.count {
			v += int64(raw>>(r.inRaw-k)%2) << (r.inField - k)
		}
	}
	if n := laid[name].signed; n > 0 {
		return sx(v, n)
	}
	return v
}

// put is a field's value where it stands in a raw.
func put(v int64, name string) uint32 {
	raw := uint32(0)
	for _, r := range laid[name].runs {
		for k := range r.count {
			raw += uint32(v>>(r.inField-k)&1) << (r.inRaw - k)
		}
	}
	return raw
}

// matches tells whether a raw is one of the rule.
func (r rule) matches(raw uint32) bool {
	if bits(raw, 6, 0) != r.opcode || r.f3 != anything && bits(raw, 14, 12) != r.f3 {
		return false
	}
	if r.upper > 0 && bits(raw, 31, 32-r.upper) != r.is {
		return false
	}
	return r.op != api.OpLrW && r.op != api.OpLrD || bits(raw, 24, 20) == 0
}

// code is the parts of a raw that tell the operation.
func (r rule) code() uint32 {
	raw := uint32(r.opcode)
	if r.f3 != anything {
		raw += uint32(r.f3) << 12
	}
	return raw + uint32(r.is<<(32-r.upper))
}

// get is a field's value in a record: every immediate stands in Imm.
func get(in api.Instr, name string) int64 {
	switch name {
	case "rd":
		return int64(in.Rd)
	case "rs1":
		return int64(in.Rs1)
	case "rs2":
		return int64(in.Rs2)
	case "aq":
		return truth(in.Aq)
	case "rl":
		return truth(in.Rl)
	}
	return in.Imm
}

// set is a record with a field's value.
func set(in api.Instr, name string, v int64) api.Instr {
	switch name {
	case "rd":
		in.Rd = int(v)
	case "rs1":
		in.Rs1 = int(v)
	case "rs2":
		in.Rs2 = int(v)
	case "aq":
		in.Aq = v == 1
	case "rl":
		in.Rl = v == 1
	default:
		in.Imm = v
	}
	return in
}

func truth(is bool) int64 {
	if is {
		return 1
	}
	return 0
}

// modelLong is the record of a raw of four bytes, and how many rules match it.
func modelLong(raw uint32) (api.Instr, int) {
	found, count := illegal(4, raw), 0
	for op, only := range alone {
		if raw == only {
			found.Op = op
			count++
		}
	}
	for _, r := range allRules {
		if !r.matches(raw) {
			continue
		}
		count++
		found.Op = r.op
		for _, name := range strings.Fields(r.fields) {
			found = set(found, name, cut(raw, name))
		}
	}
	return found, count
}

// back is the raw of four bytes that a record says, whatever its Len and Raw are.
func back(in api.Instr) uint32 {
	if raw, is := alone[in.Op]; is {
		return raw
	}
	for _, r := range allRules {
		if r.op != in.Op {
			continue
		}
		raw := r.code()
		for _, name := range strings.Fields(r.fields) {
			raw += put(get(in, name), name)
		}
		return raw
	}
	return 0
}
