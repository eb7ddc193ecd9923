package encode_test

import (
	"strconv"
	"strings"

	"anvil/api"
	"anvil/decode"
)

// The model of chapter 6: of each operation the bits that it has when all its fields are 0, and the letter of its fields. An instruction is put together from the digits of its numbers.

// operation is one operation.
type operation struct {
	op      int
	bits    uint32
	letters string
}

// operations are all of them, in the order of their numbers.
var operations = []operation{
	{api.OpLui, 0x00000037, "U"}, {api.OpAuipc, 0x00000017, "U"}, {api.OpJal, 0x0000006f, "J"}, {api.OpJalr, 0x00000067, "I"},
	{api.OpBeq, 0x00000063, "B"}, {api.OpBne, 0x00001063, "B"}, {api.OpBlt, 0x00004063, "B"}, {api.OpBge, 0x00005063, "B"}, {api.OpBltu, 0x00006063, "B"}, {api.OpBgeu, 0x00007063, "B"},
	{api.OpLb, 0x00000003, "I"}, {api.OpLh, 0x00001003, "I"}, {api.OpLw, 0x00002003, "I"}, {api.OpLd, 0x00003003, "I"}, {api.OpLbu, 0x00004003, "I"}, {api.OpLhu, 0x00005003, "I"}, {api.OpLwu, 0x00006003, "I"},
	{api.OpSb, 0x00000023, "S"}, {api.OpSh, 0x00001023, "S"}, {api.OpSw, 0x00002023, "S"}, {api.OpSd, 0x00003023, "S"},
	{api.OpAddi, 0x00000013, "I"}, {api.OpSlti, 0x00002013, "I"}, {api.OpSltiu, 0x00003013, "I"}, {api.OpXori, 0x00004013, "I"}, {api.OpOri, 0x00006013, "I"}, {api.OpAndi, 0x00007013, "I"},
	{api.OpSlli, 0x00001013, "six"}, {api.OpSrli, 0x00005013, "six"}, {api.OpSrai, 0x40005013, "six"},
	{api.OpAddiw, 0x0000001b, "I"}, {api.OpSlliw, 0x0000101b, "five"}, {api.OpSrliw, 0x0000501b, "five"}, {api.OpSraiw, 0x4000501b, "five"},
	{api.OpAdd, 0x00000033, "R"}, {api.OpSub, 0x40000033, "R"}, {api.OpSll, 0x00001033, "R"}, {api.OpSlt, 0x00002033, "R"}, {api.OpSltu, 0x00003033, "R"}, {api.OpXor, 0x00004033, "R"}, {api.OpSrl, 0x00005033, "R"}, {api.OpSra, 0x40005033, "R"}, {api.OpOr, 0x00006033, "R"}, {api.OpAnd, 0x00007033, "R"},
	{api.OpAddw, 0x0000003b, "R"}, {api.OpSubw, 0x4000003b, "R"}, {api.OpSllw, 0x0000103b, "R"}, {api.OpSrlw, 0x0000503b, "R"}, {api.OpSraw, 0x4000503b, "R"},
	{api.OpFence, 0x0000000f, "N"}, {api.OpFenceI, 0x0000100f, "N"},
	{api.OpEcall, 0x00000073, "none"}, {api.OpEbreak, 0x00100073, "none"}, {api.OpMret, 0x30200073, "none"}, {api.OpWfi, 0x10500073, "none"},
	{api.OpCsrrw, 0x00001073, "N"}, {api.OpCsrrs, 0x00002073, "N"}, {api.OpCsrrc, 0x00003073, "N"}, {api.OpCsrrwi, 0x00005073, "N"}, {api.OpCsrrsi, 0x00006073, "N"}, {api.OpCsrrci, 0x00007073, "N"},
	{api.OpMul, 0x02000033, "R"}, {api.OpMulh, 0x02001033, "R"}, {api.OpMulhsu, 0x02002033, "R"}, {api.OpMulhu, 0x02003033, "R"}, {api.OpDiv, 0x02004033, "R"}, {api.OpDivu, 0x02005033, "R"}, {api.OpRem, 0x02006033, "R"}, {api.OpRemu, 0x02007033, "R"},
	{api.OpMulw, 0x0200003b, "R"}, {api.OpDivw, 0x0200403b, "R"}, {api.OpDivuw, 0x0200503b, "R"}, {api.OpRemw, 0x0200603b, "R"}, {api.OpRemuw, 0x0200703b, "R"},
	{api.OpLrW, 0x1000202f, "L"}, {api.OpScW, 0x1800202f, "A"}, {api.OpAmoswapW, 0x0800202f, "A"}, {api.OpAmoaddW, 0x0000202f, "A"}, {api.OpAmoxorW, 0x2000202f, "A"}, {api.OpAmoandW, 0x6000202f, "A"},
	{api.OpAmoorW, 0x4000202f, "A"}, {api.OpAmominW, 0x8000202f, "A"}, {api.OpAmomaxW, 0xa000202f, "A"}, {api.OpAmominuW, 0xc000202f, "A"}, {api.OpAmomaxuW, 0xe000202f, "A"},
	{api.OpLrD, 0x1000302f, "L"}, {api.OpScD, 0x1800302f, "A"}, {api.OpAmoswapD, 0x0800302f, "A"}, {api.OpAmoaddD, 0x0000302f, "A"}, {api.OpAmoxorD, 0x2000302f, "A"}, {api.OpAmoandD, 0x6000302f, "A"},
	{api.OpAmoorD, 0x4000302f, "A"}, {api.OpAmominD, 0x8000302f, "A"}, {api.OpAmomaxD, 0xa000302f, "A"}, {api.OpAmominuD, 0xc000302f, "A"}, {api.OpAmomaxuD, 0xe000302f, "A"},
}

// fields are what an operation of a letter has.
var fields = map[string]string{
	"U": "rd imm", "J": "rd imm", "I": "rd rs1 imm", "B": "rs1 rs2 imm", "S": "rs1 rs2 imm", "N": "rd rs1 imm",
	"six": "rd rs1 imm", "five": "rd rs1 imm", "R": "rd rs1 rs2", "none": "", "L": "rd rs1 aq rl", "A": "rd rs1 rs2 aq rl",
}

// bounds are the least and the greatest number of a letter, and what all are multiples of.
var bounds = map[string][3]int64{
	"U": {-2147483648, 2147479552, 4096}, "J": {-1048576, 1048574, 2}, "I": {-2048, 2047, 1}, "B": {-4096, 4094, 2}, "S": {-2048, 2047, 1},
	"N": {0, 4095, 1}, "six": {0, 63, 1}, "five": {0, 31, 1},
}

// known is the operation of a number.
func known(op int) (operation, bool) {
	for _, o := range operations {
		if o.op == op {
			return o, true
		}
	}
	return operation{}, false
}

// has tells whether the operation has a field.
func (o operation) has(field string) bool {
	return strings.Contains(" "+fields[o.letters]+" ", " "+field+" ")
}

// numbers are the bounds of the operation's Imm.
func (o operation) numbers() (least, greatest, step int64) {
	b := bounds[o.letters]
	return b[0], b[1], b[2]
}

// modelCheck is what E1 says, in its order.
func modelCheck(in api.Instr) api.Errno {
	o, is := known(in.Op)
	if !is {
		return api.ErrInstr
	}
	for field, r := range map[string]int{"rd": in.Rd, "rs1": in.Rs1, "rs2": in.Rs2} {
		if r < 0 || r > 31 || r != 0 && !o.has(field) {
			return api.ErrInstr
		}
	}
	if in.Imm != 0 && !o.has("imm") || in.Aq && !o.has("aq") || in.Rl && !o.has("rl") {
		return api.ErrInstr
	}
	if !o.has("imm") {
		return api.OK
	}
	least, greatest, step := o.numbers()
	if in.Imm < least || in.Imm > greatest || in.Imm%step != 0 {
		return api.ErrReach
	}
	return api.OK
}

// digits are the bits hi down to lo of a number, as a text.
func digits(n int64, hi, lo int) string {
	text := ""
	for i := hi; i >= lo; i-- {
		text += strconv.Itoa(int(n >> i & 1))
	}
	return text
}

// flag is a bool's digit.
func flag(is bool) string {
	if is {
		return "1"
	}
	return "0"
}

// modelEncode is the 32 bits of a record that modelCheck lets pass: the operation's own, and the digits of the fields from the highest on.
func modelEncode(in api.Instr) uint32 {
	o, _ := known(in.Op)
	rd, rs1, rs2, n := digits(int64(in.Rd), 4, 0), digits(int64(in.Rs1), 4, 0), digits(int64(in.Rs2), 4, 0), in.Imm
	text := map[string]string{
		"U":    digits(n, 31, 12) + rd + "0000000",
		"J":    digits(n, 20, 20) + digits(n, 10, 1) + digits(n, 11, 11) + digits(n, 19, 12) + rd + "0000000",
		"I":    digits(n, 11, 0) + rs1 + "000" + rd + "0000000",
		"B":    digits(n, 12, 12) + digits(n, 10, 5) + rs2 + rs1 + "000" + digits(n, 4, 1) + digits(n, 11, 11) + "0000000",
		"S":    digits(n, 11, 5) + rs2 + rs1 + "000" + digits(n, 4, 0) + "0000000",
		"N":    digits(n, 11, 0) + rs1 + "000" + rd + "0000000",
		"six":  "000000" + digits(n, 5, 0) + rs1 + "000" + rd + "0000000",
		"five": "0000000" + digits(n, 4, 0) + rs1 + "000" + rd + "0000000",
		"R":    "0000000" + rs2 + rs1 + "000" + rd + "0000000",
		"none": "0",
		"L":    "00000" + flag(in.Aq) + flag(in.Rl) + "00000" + rs1 + "000" + rd + "0000000",
		"A":    "00000" + flag(in.Aq) + flag(in.Rl) + rs2 + rs1 + "000" + rd + "0000000",
	}[o.letters]
	bits, err := strconv.ParseUint(text, 2, 32)
	if err != nil {
		panic(err)
	}
	return o.bits + uint32(bits)
}

// plain is a record without what does not count.
func plain(in api.Instr) api.Instr {
	in.Len, in.Raw = 0, 0
	return in
}

// leastParcels is the least parcel of each record that one has: all parcels are looked through, the least last.
var leastParcels = func() map[api.Instr]uint16 {
	all := map[api.Instr]uint16{}
	for p := 0xffff; p >= 0; p-- {
		if in := decode.Decode(uint32(p)); p%4 != 3 && in.Op != api.OpIllegal {
			all[plain(in)] = uint16(p)
		}
	}
	return all
}()

// shortRecords are the records that parcels have, in the order of their least ones.
var shortRecords = func() []api.Instr {
	var all []api.Instr
	for p := range 1 << 16 {
		in := plain(decode.Decode(uint32(p)))
		if least, is := leastParcels[in]; is && int(least) == p {
			all = append(all, in)
		}
	}
	return all
}()
