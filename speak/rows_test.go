package speak_test

import "strings"

// The model of chapter 7: of each name the bits of its instructions, as the ISA's manual draws them, from the highest on; its operands; and the numbers that it can hold.
//
// Of the bits: zeros and ones; rd, rs1, rs2 five bits, rd', rs1', rs2' three (from s0 on); [..] bits of the number; csr twelve, five five, ahead and behind four.
// Of the operands: a register with ! behind it may not be the one that follows; sp is that register; hex is the number's low twenty bits.

// span is numbers from a least one to a greatest one, in steps.
type span struct{ least, greatest, step int64 }

// row is a name's.
type row struct {
	name, bits, operands string
	reach                []span
}

var (
	twelve   = []span{{-2048, 2047, 1}}
	twenty   = []span{{0, 0xfffff, 1}}
	far      = []span{{-1 << 20, 1<<20 - 2, 2}}
	near     = []span{{-1 << 12, 1<<12 - 2, 2}}
	to63     = []span{{0, 63, 1}}
	to31     = []span{{0, 31, 1}}
	six      = []span{{-32, 31, 1}}
	shortFar = []span{{-1 << 11, 1<<11 - 2, 2}}
	shortOff = []span{{-1 << 8, 1<<8 - 2, 2}}
)

// rows are all names, but .word and .half.
var rows = append(longRows(), shortRows()...)

// longRows are the names of section 7.3.
func longRows() []row {
	all := []row{
		{"lui", "[19:0] rd 0110111", "rd, hex", twenty},
		{"auipc", "[19:0] rd 0010111", "rd, hex", twenty},
		{"jal", "[20|10:1|11|19:12] rd 1101111", "rd, target", far},
		{"jalr", "[11:0] rs1 000 rd 1100111", "rd, imm(rs1)", twelve},
		{"slli", "000000 [5:0] rs1 001 rd 0010011", "rd, rs1, imm", to63},
		{"srli", "000000 [5:0] rs1 101 rd 0010011", "rd, rs1, imm", to63},
		{"srai", "010000 [5:0] rs1 101 rd 0010011", "rd, rs1, imm", to63},
		{"addiw", "[11:0] rs1 000 rd 0011011", "rd, rs1, imm", twelve},
		{"slliw", "0000000 [4:0] rs1 001 rd 0011011", "rd, rs1, imm", to31},
		{"srliw", "0000000 [4:0] rs1 101 rd 0011011", "rd, rs1, imm", to31},
		{"sraiw", "0100000 [4:0] rs1 101 rd 0011011", "rd, rs1, imm", to31},
		{"fence", "0000 ahead behind 00000 000 00000 0001111", "ahead, behind", nil},
		{"fence.i", "000000000000 00000 001 00000 0001111", "", nil},
		{"ecall", "000000000000 00000 000 00000 1110011", "", nil},
		{"ebreak", "000000000001 00000 000 00000 1110011", "", nil},
		{"mret", "001100000010 00000 000 00000 1110011", "", nil},
		{"wfi", "000100000101 00000 000 00000 1110011", "", nil},
	}
	// by lists names that differ in three bits.
	by := func(before, behind, operands string, reach []span, names string) {
		for _, pair := range strings.Fields(names) {
			name, f3, _ := strings.Cut(pair, "=")
			all = append(all, row{name, before + " " + f3 + " " + behind, operands, reach})
		}
	}
	by("[12|10:5] rs2 rs1", "[4:1|11] 1100011", "rs1, rs2, target", near, "beq=000 bne=001 blt=100 bge=101 bltu=110 bgeu=111")
	by("[11:0] rs1", "rd 0000011", "rd, imm(rs1)", twelve, "lb=000 lh=001 lw=010 ld=011 lbu=100 lhu=101 lwu=110")
	by("[11:5] rs2 rs1", "[4:0] 0100011", "rs2, imm(rs1)", twelve, "sb=000 sh=001 sw=010 sd=011")
	by("[11:0] rs1", "rd 0010011", "rd, rs1, imm", twelve, "addi=000 slti=010 sltiu=011 xori=100 ori=110 andi=111")
	by("0000000 rs2 rs1", "rd 0110011", "rd, rs1, rs2", nil, "add=000 sll=001 slt=010 sltu=011 xor=100 srl=101 or=110 and=111")
	by("0100000 rs2 rs1", "rd 0110011", "rd, rs1, rs2", nil, "sub=000 sra=101")
	by("0000001 rs2 rs1", "rd 0110011", "rd, rs1, rs2", nil, "mul=000 mulh=001 mulhsu=010 mulhu=011 div=100 divu=101 rem=110 remu=111")
	by("0000000 rs2 rs1", "rd 0111011", "rd, rs1, rs2", nil, "addw=000 sllw=001 srlw=101")
	by("0100000 rs2 rs1", "rd 0111011", "rd, rs1, rs2", nil, "subw=000 sraw=101")
	by("0000001 rs2 rs1", "rd 0111011", "rd, rs1, rs2", nil, "mulw=000 divw=100 divuw=101 remw=110 remuw=111")
	by("csr rs1", "rd 1110011", "rd, csr, rs1", nil, "csrrw=001 csrrs=010 csrrc=011")
	by("csr five", "rd 1110011", "rd, csr, five", to31, "csrrwi=101 csrrsi=110 csrrci=111")
	return append(all, atomicRows()...)
}

// atomicRows are the atomics with each end of their names.
func atomicRows() []row {
	var all []row
	for _, end := range []struct{ text, bits string }{{"", "00"}, {".aq", "10"}, {".rl", "01"}, {".aqrl", "11"}} {
		for _, width := range []struct{ text, bits string }{{".w", "010"}, {".d", "011"}} {
			add := func(name, kind, rs2, operands string) {
				all = append(all, row{name + width.text + end.text, kind + " " + end.bits + " " + rs2 + " rs1 " + width.bits + " rd 0101111", operands, nil})
			}
			add("lr", "00010", "00000", "rd, (rs1)")
			for _, pair := range strings.Fields("sc=00011 amoswap=00001 amoadd=00000 amoxor=00100 amoand=01100 amoor=01000 amomin=10000 amomax=10100 amominu=11000 amomaxu=11100") {
				name, kind, _ := strings.Cut(pair, "=")
				add(name, kind, "rs2", "rd, rs2, (rs1)")
			}
		}
	}
	return all
}

// shortRows are the names of section 7.4. Where two take one parcel, the first is its name.
func shortRows() []row {
	return []row{
		{"c.addi4spn", "000 [5:4|9:6|2|3] rd' 00", "rd, sp, imm", []span{{4, 1020, 4}}},
		{"c.lw", "010 [5:3] rs1' [2|6] rd' 00", "rd, imm(rs1)", []span{{0, 124, 4}}},
		{"c.ld", "011 [5:3] rs1' [7:6] rd' 00", "rd, imm(rs1)", []span{{0, 248, 8}}},
		{"c.sw", "110 [5:3] rs1' [2|6] rs2' 00", "rs2, imm(rs1)", []span{{0, 124, 4}}},
		{"c.sd", "111 [5:3] rs1' [7:6] rs2' 00", "rs2, imm(rs1)", []span{{0, 248, 8}}},
		{"c.nop", "000 0 00000 00000 01", "", nil},
		{"c.nop", "000 [5] 00000 [4:0] 01", "imm", six},
		{"c.addi", "000 [5] rd [4:0] 01", "rd!zero, imm", six},
		{"c.addiw", "001 [5] rd [4:0] 01", "rd!zero, imm", six},
		{"c.li", "010 [5] rd [4:0] 01", "rd, imm", six},
		{"c.addi16sp", "011 [9] 00010 [4|6|8:7|5] 01", "sp, imm", []span{{-512, -16, 16}, {16, 496, 16}}},
		{"c.lui", "011 [5] rd [4:0] 01", "rd!sp, hex", []span{{1, 31, 1}, {0xfffe0, 0xfffff, 1}}},
		{"c.srli", "100 [5] 00 rd' [4:0] 01", "rd, imm", to63},
		{"c.srai", "100 [5] 01 rd' [4:0] 01", "rd, imm", to63},
		{"c.andi", "100 [5] 10 rd' [4:0] 01", "rd, imm", six},
		{"c.sub", "100 0 11 rd' 00 rs2' 01", "rd, rs2", nil},
		{"c.xor", "100 0 11 rd' 01 rs2' 01", "rd, rs2", nil},
		{"c.or", "100 0 11 rd' 10 rs2' 01", "rd, rs2", nil},
		{"c.and", "100 0 11 rd' 11 rs2' 01", "rd, rs2", nil},
		{"c.subw", "100 1 11 rd' 00 rs2' 01", "rd, rs2", nil},
		{"c.addw", "100 1 11 rd' 01 rs2' 01", "rd, rs2", nil},
		{"c.j", "101 [11|4|9:8|10|6|7|3:1|5] 01", "target", shortFar},
		{"c.beqz", "110 [8|4:3] rs1' [7:6|2:1|5] 01", "rs1, target", shortOff},
		{"c.bnez", "111 [8|4:3] rs1' [7:6|2:1|5] 01", "rs1, target", shortOff},
		{"c.slli", "000 [5] rd [4:0] 10", "rd, imm", to63},
		{"c.lwsp", "010 [5] rd [4:2|7:6] 10", "rd!zero, imm(sp)", []span{{0, 252, 4}}},
		{"c.ldsp", "011 [5] rd [4:3|8:6] 10", "rd!zero, imm(sp)", []span{{0, 504, 8}}},
		{"c.jr", "100 0 rs1 00000 10", "rs1!zero", nil},
		{"c.mv", "100 0 rd rs2 10", "rd, rs2!zero", nil},
		{"c.ebreak", "100 1 00000 00000 10", "", nil},
		{"c.jalr", "100 1 rs1 00000 10", "rs1!zero", nil},
		{"c.add", "100 1 rd rs2 10", "rd, rs2!zero", nil},
		{"c.swsp", "110 [5:2|7:6] rs2 10", "rs2, imm(sp)", []span{{0, 252, 4}}},
		{"c.sdsp", "111 [5:3|8:6] rs2 10", "rs2, imm(sp)", []span{{0, 504, 8}}},
	}
}

// registers are the names of section 7.1, in their order.
var registers = strings.Fields("zero ra sp gp tp t0 t1 t2 s0 s1 a0 a1 a2 a3 a4 a5 a6 a7 s2 s3 s4 s5 s6 s7 s8 s9 s10 s11 t3 t4 t5 t6")

// csrNumbers are the CSRs of DOC.md's table, by name.
var csrNumbers = func() map[string]int {
	all := map[string]int{
		"mvendorid": 0xf11, "marchid": 0xf12, "mimpid": 0xf13, "mhartid": 0xf14, "mconfigptr": 0xf15,
		"mstatus": 0x300, "misa": 0x301, "mie": 0x304, "mtvec": 0x305, "mcounteren": 0x306, "menvcfg": 0x30a, "mcountinhibit": 0x320,
		"mscratch": 0x340, "mepc": 0x341, "mcause": 0x342, "mtval": 0x343, "mip": 0x344, "pmpcfg0": 0x3a0, "pmpcfg2": 0x3a2,
		"mcycle": 0xb00, "minstret": 0xb02, "cycle": 0xc00, "time": 0xc01, "instret": 0xc02,
	}
	for n := range 16 {
		all["pmpaddr"+itoa(n)] = 0x3b0 + n
	}
	for n := 3; n <= 31; n++ {
		all["mhpmevent"+itoa(n)] = 0x320 + n
		all["mhpmcounter"+itoa(n)] = 0xb00 + n
		all["hpmcounter"+itoa(n)] = 0xc00 + n
	}
	return all
}()

// csrNames are the same by number.
var csrNames = func() map[int]string {
	all := map[int]string{}
	for name, n := range csrNumbers {
		all[n] = name
	}
	return all
}()
