package exec_test

import (
	"math"
	"testing"

	"anvil/api"
)

// result is an operation and what it comes to.
type result struct {
	op   int
	want uint64
}

// TestP12_3Immediate: every operation with an immediate, what it comes to written out; to another register, to its own, and to x0.
func TestP12_3Immediate(t *testing.T) {
	b := of(t, rich(8))
	c := with(machine(), 0x9edcba98f6543213)
	for _, one := range []result{
		{api.OpAddi, 0x9edcba98f6542d38}, {api.OpSlti, 1}, {api.OpSltiu, 1},
		{api.OpXori, 0x6123456709abc936}, {api.OpOri, 0xfffffffffffffb37}, {api.OpAndi, 0x9edcba98f6543201},
		{api.OpSlli, 0xca86426000000000}, {api.OpSrli, 0x4f6e5d4}, {api.OpSrai, 0xfffffffffcf6e5d4},
		{api.OpAddiw, 0xfffffffff6542d38}, {api.OpSlliw, 0xffffffffca864260},
		{api.OpSrliw, 0x7b2a190}, {api.OpSraiw, 0xffffffffffb2a190},
	} {
		in := api.Instr{Op: one.op, Rs1: 1, Rs2: 1, Imm: -1243, Len: 4}
		gives(t, c, b, in, ram+4, api.Done{})
		for _, in.Rd = range []int{1, 2, 31} {
			gives(t, c, b, in, ram+4, api.Done{Rd: in.Rd, Val: one.want})
		}
	}
}

// TestP12_3Registers: every operation of two registers, what it comes to written out; to another register, to either of its own, and to x0.
func TestP12_3Registers(t *testing.T) {
	b := of(t, rich(8))
	c := with(machine(), 0x9edcba98f6543213, 0x0000600000008725)
	for _, one := range []result{
		{api.OpAdd, 0x9edd1a98f654b938}, {api.OpSub, 0x9edc5a98f653aaee},
		{api.OpSll, 0xca86426000000000}, {api.OpSlt, 1}, {api.OpSltu, 0},
		{api.OpXor, 0x9edcda98f654b536}, {api.OpSrl, 0x4f6e5d4}, {api.OpSra, 0xfffffffffcf6e5d4},
		{api.OpOr, 0x9edcfa98f654b737}, {api.OpAnd, 0x200000000201},
		{api.OpAddw, 0xfffffffff654b938}, {api.OpSubw, 0xfffffffff653aaee},
		{api.OpSllw, 0xffffffffca864260}, {api.OpSrlw, 0x7b2a190}, {api.OpSraw, 0xffffffffffb2a190},
		{api.OpMul, 0xef14c202009341bf}, {api.OpMulh, 0xffffdb92c5f92917},
		{api.OpMulhsu, 0xffffdb92c5f92917}, {api.OpMulhu, 0x3b92c5f9b03c},
		{api.OpDiv, 0xfffffffffffefcf8}, {api.OpDivu, 0x1a7a1},
		{api.OpRem, 0xffffba997f12da3b}, {api.OpRemu, 0x5a9816b110ce},
		{api.OpMulw, 0x9341bf}, {api.OpDivw, 0xffffffffffffedaf}, {api.OpDivuw, 0x1d29c},
		{api.OpRemw, 0xffffffffffff8ec8}, {api.OpRemuw, 0x7d87},
	} {
		in := api.Instr{Op: one.op, Rs1: 1, Rs2: 2, Imm: -1243, Len: 4}
		gives(t, c, b, in, ram+4, api.Done{})
		for _, in.Rd = range []int{1, 2, 3} {
			gives(t, c, b, in, ram+4, api.Done{Rd: in.Rd, Val: one.want})
		}
	}
}

// TestP12_3Upper: LUI and AUIPC take their immediate as it is, of any size.
func TestP12_3Upper(t *testing.T) {
	b := of(t, rich(8))
	for _, imm := range []int64{0, 1, -1, 0x7ffff000, -4096, math.MinInt64, math.MaxInt64} {
		for _, length := range []int{2, 4} {
			next := uint64(ram + length)
			lui := api.Instr{Op: api.OpLui, Rd: 5, Rs1: 1, Rs2: 1, Imm: imm, Len: length}
			auipc := api.Instr{Op: api.OpAuipc, Rd: 5, Rs1: 1, Rs2: 1, Imm: imm, Len: length}
			c := with(machine(), 99)
			gives(t, c, b, lui, next, api.Done{Rd: 5, Val: uint64(imm)})
			gives(t, c, b, auipc, next, api.Done{Rd: 5, Val: ram + uint64(imm)})
			lui.Rd, auipc.Rd = 0, 0
			gives(t, c, b, lui, next, api.Done{})
			gives(t, c, b, auipc, next, api.Done{})
		}
	}
}

// TestP12_3Jumps: targets ahead and behind, odd ones, and over both ends of the address space.
func TestP12_3Jumps(t *testing.T) {
	b := of(t, rich(8))
	for _, one := range []struct {
		pc     uint64
		imm    int64
		target uint64
	}{
		{ram, 0, ram}, {ram, 6, ram + 6}, {ram, 7, ram + 6}, {ram, -1, ram - 2}, {ram, -2, ram - 2}, {ram, -3, ram - 4},
		{ones - 1, 4, 2}, {ones - 1, 2, 0}, {ones - 1, 3, 0}, {0, -1, ones - 1}, {0, -2, ones - 1}, {2, -4, ones - 1},
		{ram, math.MinInt64, 1<<63 + ram}, {ram, math.MaxInt64, 1<<63 + ram - 2}, {ones - 1, math.MinInt64, 1<<63 - 2},
	} {
		for _, length := range []int{2, 4} {
			link := one.pc + uint64(length)
			c := with(at(machine(), one.pc), one.pc, ^one.pc)
			jal := api.Instr{Op: api.OpJal, Rs1: 2, Imm: one.imm, Len: length}
			jalr := api.Instr{Op: api.OpJalr, Rs1: 1, Rs2: 2, Imm: one.imm, Len: length}
			gives(t, c, b, jal, one.target, api.Done{})
			gives(t, c, b, jalr, one.target, api.Done{})
			for _, rd := range []int{1, 2, 31} {
				jal.Rd, jalr.Rd = rd, rd
				gives(t, c, b, jal, one.target, api.Done{Rd: rd, Val: link})
				gives(t, c, b, jalr, one.target, api.Done{Rd: rd, Val: link})
			}
		}
	}
}

// TestP12_3Odd: of a register and an immediate that are both odd the sum counts, and of an odd sum its bit 0 is cleared.
func TestP12_3Odd(t *testing.T) {
	b := of(t, rich(8))
	for _, one := range []struct {
		x      uint64
		imm    int64
		target uint64
	}{{ram + 1, 1, ram + 2}, {ram + 1, 0, ram}, {ram + 1, -1, ram}, {ones, 1, 0}, {ones, 0, ones - 1}, {0, -1, ones - 1}, {ones, 4, 2}} {
		in := api.Instr{Op: api.OpJalr, Rd: 1, Rs1: 1, Imm: one.imm, Len: 4}
		gives(t, with(machine(), one.x), b, in, one.target, api.Done{Rd: 1, Val: ram + 4})
	}
}

// TestP12_2Next: behind the last instruction of the address space comes the first.
func TestP12_2Next(t *testing.T) {
	b := of(t, rich(8))
	for _, one := range []struct {
		pc     uint64
		length int
		next   uint64
	}{{ones - 1, 2, 0}, {ones - 1, 4, 2}, {ones - 3, 4, 0}, {ones - 3, 2, ones - 1}, {0, 2, 2}} {
		c := at(machine(), one.pc)
		for _, op := range []int{api.OpFence, api.OpFenceI, api.OpAddi, api.OpSub, api.OpLui, api.OpBne} {
			gives(t, c, b, api.Instr{Op: op, Len: one.length}, one.next, api.Done{})
		}
		gives(t, c, b, api.Instr{Op: api.OpJal, Rd: 1, Imm: 8, Len: one.length}, one.pc+8, api.Done{Rd: 1, Val: one.next})
	}
}

// goes is two numbers and the branches that they take, in the order BEQ, BNE, BLT, BGE, BLTU, BGEU.
type goes struct {
	a, b  uint64
	taken [6]bool
}

func branches() []goes {
	return []goes{
		{5, 5, [6]bool{true, false, false, true, false, true}},
		{0, 0, [6]bool{true, false, false, true, false, true}},
		{ones, ones, [6]bool{true, false, false, true, false, true}},
		{1, 2, [6]bool{false, true, true, false, true, false}},
		{2, 1, [6]bool{false, true, false, true, false, true}},
		{ones, 1, [6]bool{false, true, true, false, false, true}},
		{1, ones, [6]bool{false, true, false, true, true, false}},
		{1 << 63, 1<<63 - 1, [6]bool{false, true, true, false, false, true}},
	}
}

// TestP12_3Branches: each branch, where it goes and where it does not; odd targets, and targets over the ends.
func TestP12_3Branches(t *testing.T) {
	b := of(t, rich(8))
	for _, one := range branches() {
		for i, op := range []int{api.OpBeq, api.OpBne, api.OpBlt, api.OpBge, api.OpBltu, api.OpBgeu} {
			for _, way := range []struct {
				pc     uint64
				imm    int64
				target uint64
			}{{ram, 8, ram + 8}, {ram, -4, ram - 4}, {ram, 5, ram + 4}, {ram, -1, ram - 2}, {ones - 1, 6, 4}, {ones - 1, 3, 0}, {0, -4, ones - 3}, {ram, math.MinInt64, 1<<63 + ram}} {
				for _, length := range []int{2, 4} {
					next := way.pc + uint64(length)
					if one.taken[i] {
						next = way.target
					}
					c := with(at(machine(), way.pc), one.a, one.b)
					// A branch has no Rd: what the record says there does not count.
					gives(t, c, b, api.Instr{Op: op, Rd: 3, Rs1: 1, Rs2: 2, Imm: way.imm, Len: length}, next, api.Done{})
				}
			}
		}
	}
}

// TestP12_3Fences: nothing but Pc changes, whatever the record says.
func TestP12_3Fences(t *testing.T) {
	b := of(t, rich(little))
	was := b.State()
	for _, op := range []int{api.OpFence, api.OpFenceI} {
		for _, c := range gridCpus() {
			for _, n := range []int{2, 4} {
				in := api.Instr{Op: op, Rd: 1, Rs1: 2, Rs2: 3, Imm: 255, Aq: true, Rl: true, Len: n, Raw: 1}
				gives(t, c, b, in, modelProper(c).Pc+uint64(n), api.Done{})
			}
		}
	}
	if !sameState(was, b.State()) {
		t.Errorf("behind fences the bus was\n%+v, is\n%+v", was, b.State())
	}
}

// TestP12_2Zero: x0 is 0, though the Cpu that comes says otherwise, and stays it.
func TestP12_2Zero(t *testing.T) {
	b := of(t, rich(8))
	c := machine()
	c.X[0] = 77
	gives(t, c, b, api.Instr{Op: api.OpAdd, Rd: 1, Rs1: 0, Rs2: 0, Len: 4}, ram+4, api.Done{Rd: 1})
	gives(t, c, b, api.Instr{Op: api.OpAddi, Rd: 0, Rs1: 0, Imm: 5, Len: 4}, ram+4, api.Done{})
	gives(t, c, b, api.Instr{Op: api.OpJalr, Rs1: 0, Imm: 16, Len: 4}, 16, api.Done{})
	gives(t, c, b, api.Instr{Op: api.OpBeq, Imm: 16, Len: 4}, ram+16, api.Done{})
	gives(t, c, b, api.Instr{Op: api.OpSd, Rs2: 0, Rs1: 0, Imm: ram, Len: 4}, ram+4, api.Done{Mem: api.W, Addr: ram, Size: 8})
}

// TestP12_2Same: a register that gets the value that it has is told too.
func TestP12_2Same(t *testing.T) {
	b := of(t, rich(8))
	gives(t, with(machine(), 5), b, api.Instr{Op: api.OpAddi, Rd: 1, Rs1: 1, Len: 4}, ram+4, api.Done{Rd: 1, Val: 5})
	gives(t, machine(), b, api.Instr{Op: api.OpLui, Rd: 9, Len: 2}, ram+2, api.Done{Rd: 9})
}
