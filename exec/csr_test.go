package exec_test

import (
	"math"
	"testing"

	"anvil/api"
	"anvil/csr"
)

// scratch is mscratch, which keeps all that is written.
const scratch = 0x340

func scratched(c api.Cpu, v uint64) api.Cpu {
	c.Mscratch = v
	return c
}

// TestP12_4Written: each CSR instruction at a CSR that keeps all: what it writes and what rd gets, written out.
func TestP12_4Written(t *testing.T) {
	b := of(t, rich(8))
	for _, one := range []struct {
		op     int
		behind uint64
	}{
		{api.OpCsrrw, 0b0110_0000}, {api.OpCsrrs, 0b0111_0101}, {api.OpCsrrc, 0b0001_0101},
		{api.OpCsrrwi, 6}, {api.OpCsrrsi, 0b0101_0111}, {api.OpCsrrci, 0b0101_0001},
	} {
		for _, n := range []int{2, 4} {
			c := scratched(machine(), 0b0101_0101)
			c.X[6] = 0b0110_0000
			written := func(c *api.Cpu) { c.Mscratch = one.behind }
			in := api.Instr{Op: one.op, Rs1: 6, Rs2: 7, Imm: scratch, Len: n, Raw: 9}
			gives(t, c, b, in, ram+uint64(n), api.Done{}, written)
			for _, in.Rd = range []int{1, 6, 31} {
				gives(t, c, b, in, ram+uint64(n), api.Done{Rd: in.Rd, Val: 0b0101_0101}, written)
			}
		}
	}
}

// TestP12_4Zero: with Rs1 0 the two that replace write 0, and the others do not write; with Rs1 not 0 and X[Rs1] 0 all write.
func TestP12_4Zero(t *testing.T) {
	b := of(t, rich(8))
	c := scratched(machine(), 5)
	zero := func(c *api.Cpu) { c.Mscratch = 0 }
	for _, op := range opsOf("csr") {
		in := api.Instr{Op: op, Rd: 1, Imm: scratch, Len: 4, Raw: 9}
		if op == api.OpCsrrw || op == api.OpCsrrwi {
			gives(t, c, b, in, ram+4, api.Done{Rd: 1, Val: 5}, zero)
		} else {
			gives(t, c, b, in, ram+4, api.Done{Rd: 1, Val: 5})
		}
	}
	for _, op := range []int{api.OpCsrrw, api.OpCsrrs, api.OpCsrrc} {
		in := api.Instr{Op: op, Rd: 1, Rs1: 2, Imm: scratch, Len: 4, Raw: 9}
		if op == api.OpCsrrw {
			gives(t, c, b, in, ram+4, api.Done{Rd: 1, Val: 5}, zero)
		} else {
			gives(t, c, b, in, ram+4, api.Done{Rd: 1, Val: 5})
		}
	}
}

// TestP12_4Operand: the operand of an i form is Rs1 itself, all of its five bits, whatever that register holds.
func TestP12_4Operand(t *testing.T) {
	b := of(t, rich(8))
	for n := range 32 {
		c := scratched(machine(), ones)
		for i := range c.X {
			c.X[i] = uint64(1000 + i)
		}
		in := api.Instr{Op: api.OpCsrrwi, Rs1: n, Imm: scratch, Len: 4}
		gives(t, c, b, in, ram+4, api.Done{}, func(c *api.Cpu) { c.Mscratch = uint64(n) })
		in.Op = api.OpCsrrci
		gives(t, c, b, in, ram+4, api.Done{}, func(c *api.Cpu) { c.Mscratch = ^uint64(n) })
		in.Op = api.OpCsrrsi
		gives(t, scratched(c, 0), b, in, ram+4, api.Done{}, func(c *api.Cpu) { c.Mscratch = uint64(n) })
		in.Op = api.OpCsrrw
		gives(t, c, b, in, ram+4, api.Done{}, func(d *api.Cpu) { d.Mscratch = d.X[n] })
	}
}

// TestP12_4ReadOnly: a CSR that is read-only is read by those that do not write; whoever writes is stopped, also where X[Rs1] is 0.
func TestP12_4ReadOnly(t *testing.T) {
	b := of(t, rich(8))
	for _, c := range []api.Cpu{machine(), with(machine(), 5, 6)} {
		c.Mcycle, c.Minstret = 11, 12
		for n, v := range map[int64]uint64{
			0xf11: 0, 0xf12: 0, 0xf13: 1, 0xf14: 0, 0xf15: 0, 0xc00: 11, 0xc01: 0x8123456789abcdef, 0xc02: 12, 0xc03: 0, 0xc1f: 0,
		} {
			for _, op := range opsOf("csr") {
				in := api.Instr{Op: op, Rd: 3, Imm: n, Len: 4, Raw: 0xf0000005}
				if op == api.OpCsrrw || op == api.OpCsrrwi {
					stops(t, c, b, in, 2, 0xf0000005)
				} else {
					gives(t, c, b, in, ram+4, api.Done{Rd: 3, Val: v})
				}
				for _, in.Rs1 = range []int{1, 2, 31} {
					stops(t, c, b, in, 2, 0xf0000005)
				}
			}
		}
	}
}

// TestP12_4None: a CSR that is not there, a number that is none, a negative one, and the least and the greatest.
func TestP12_4None(t *testing.T) {
	b := of(t, rich(8))
	c := with(machine(), 5)
	for _, n := range []int64{
		0, 1, 0x100, 0x302, 0x3a1, 0x3a3, 0x3c0, 0x7a0, 0x7c0, 0xb01, 0xb20, 0xc20, 0xf10, 0xf16, 0xfff,
		4096, 4096 + scratch, 1<<32 + scratch, -1, -scratch, scratch - 4096, math.MinInt64, math.MinInt64 + scratch, math.MaxInt64,
	} {
		for _, op := range opsOf("csr") {
			for _, rs1 := range []int{0, 1, 2} {
				stops(t, c, b, api.Instr{Op: op, Rd: 1, Rs1: rs1, Imm: n, Len: 4, Raw: 5}, 2, 5)
			}
		}
	}
}

// TestP12_4Mode: U may read the counters that mcounteren lets it read, and nothing else, and may write nothing.
func TestP12_4Mode(t *testing.T) {
	b := of(t, rich(8))
	for bits := range uint64(8) {
		c := with(user(7), 5)
		c.Mcounteren, c.Mcycle, c.Minstret = bits, 21, 22
		values := []uint64{21, 0x8123456789abcdef, 22}
		for _, n := range csrs() {
			may := n >= 0xc00 && n <= 0xc02 && bits>>(n-0xc00)&1 == 1
			for _, op := range opsOf("csr") {
				in := api.Instr{Op: op, Rd: 2, Imm: n, Len: 2, Raw: 3}
				if may && op != api.OpCsrrw && op != api.OpCsrrwi {
					gives(t, c, b, in, ram+2, api.Done{Rd: 2, Val: values[n-0xc00]})
				} else {
					stops(t, c, b, in, 2, 3)
				}
				for _, in.Rs1 = range []int{1, 3} {
					stops(t, c, b, in, 2, 3)
				}
			}
		}
	}
}

// TestP12_4Borrowed: MPRV does not count for CSRs.
func TestP12_4Borrowed(t *testing.T) {
	b := of(t, rich(8))
	c := scratched(borrowed(user(0)), 8)
	gives(t, c, b, api.Instr{Op: api.OpCsrrs, Rd: 1, Imm: scratch, Len: 4}, ram+4, api.Done{Rd: 1, Val: 8})
}

// TestP12_4Wrote: mcycle and minstret that are written are told, and just those: by whom writes, also if nothing changes.
func TestP12_4Wrote(t *testing.T) {
	b := of(t, rich(8))
	c := with(machine(), 0, 5)
	c.Mcycle, c.Minstret = 7, 7
	for _, op := range opsOf("csr") {
		for _, n := range []int64{0xb00, 0xb02, 0xb03, 0xb1f, scratch, 0x300, 0x344} {
			for rs1 := range 3 {
				writes := rs1 != 0 || op == api.OpCsrrw || op == api.OpCsrrwi
				for _, rd := range []int{0, 2} {
					got := do(c, b, api.Instr{Op: op, Rd: rd, Rs1: rs1, Imm: n, Len: 4}).done
					if got.Trap.Is || got.WroteCycle != (writes && n == 0xb00) || got.WroteCount != (writes && n == 0xb02) {
						t.Errorf("operation %d with Rs1 %d at %#x: %+v", op, rs1, n, got)
					}
				}
			}
		}
	}
	in := api.Instr{Op: api.OpCsrrw, Rd: 1, Rs1: 2, Imm: 0xb00, Len: 4}
	gives(t, c, b, in, ram+4, api.Done{Rd: 1, Val: 7, WroteCycle: true}, func(c *api.Cpu) { c.Mcycle = 5 })
	in.Imm = 0xb02
	gives(t, c, b, in, ram+4, api.Done{Rd: 1, Val: 7, WroteCount: true}, func(c *api.Cpu) { c.Minstret = 5 })
	c.Mode = api.U
	stops(t, c, b, in, 2, 0)
}

// TestP12_4Bus: mip and time are the bus's.
func TestP12_4Bus(t *testing.T) {
	for _, one := range []struct {
		state api.Bus
		mip   uint64
	}{
		{api.Bus{Mtimecmp: 1}, 0}, {api.Bus{Mtimecmp: 1, Msip: 1}, 0x8}, {api.Bus{Mtimecmp: 1, Soft: true}, 0x8},
		{api.Bus{Mtime: 5, Mtimecmp: 5}, 0x80}, {api.Bus{Mtime: 4, Mtimecmp: 5}, 0}, {api.Bus{Mtimecmp: 1, Ext: true}, 0x800},
		{api.Bus{Mtimecmp: 1, Ier: 1, Input: []byte("a")}, 0x800}, {api.Bus{Msip: 1, Ext: true}, 0x888},
	} {
		one.state.Ram = make([]byte, 8)
		b := of(t, one.state)
		gives(t, machine(), b, api.Instr{Op: api.OpCsrrs, Rd: 1, Imm: 0x344, Len: 4}, ram+4, api.Done{Rd: 1, Val: one.mip})
		gives(t, machine(), b, api.Instr{Op: api.OpCsrrc, Rd: 1, Imm: 0xc01, Len: 4}, ram+4, api.Done{Rd: 1, Val: one.state.Mtime})
		// A write to mip is legal and changes nothing.
		gives(t, with(machine(), ones), b, api.Instr{Op: api.OpCsrrw, Rd: 2, Rs1: 1, Imm: 0x344, Len: 4}, ram+4, api.Done{Rd: 2, Val: one.mip})
		if !sameState(one.state, b.State()) {
			t.Errorf("the bus was\n%+v, is\n%+v", one.state, b.State())
		}
	}
}

// TestP12_4Kept: of what is written the CSR keeps what it keeps; rd gets what was there.
func TestP12_4Kept(t *testing.T) {
	b := of(t, rich(8))
	c := with(machine(), ones)
	c.Mtvec, c.Mie = 0x100, 8
	all := func(n int64) api.Instr { return api.Instr{Op: api.OpCsrrs, Rd: 1, Rs1: 1, Imm: n, Len: 4} }
	gives(t, c, b, all(0x305), ram+4, api.Done{Rd: 1, Val: 0x100}, func(c *api.Cpu) { c.Mtvec = ones - 2 })
	gives(t, c, b, all(0x304), ram+4, api.Done{Rd: 1, Val: 8}, func(c *api.Cpu) { c.Mie = 0x888 })
	gives(t, c, b, all(0x341), ram+4, api.Done{Rd: 1}, func(c *api.Cpu) { c.Mepc = ones - 1 })
	gives(t, c, b, all(0x300), ram+4, api.Done{Rd: 1, Val: uxl}, func(c *api.Cpu) { c.Mstatus = uxl | mie | mpie | mpp | mprv | tw })
	gives(t, c, b, all(0x301), ram+4, api.Done{Rd: 1, Val: 0x8000000000101105})
	gives(t, c, b, all(0x3b0), ram+4, api.Done{Rd: 1}, func(c *api.Cpu) { c.Pmp.Addr[0] = 1<<54 - 1 })
	gives(t, c, b, all(0x3a0), ram+4, api.Done{Rd: 1}, func(c *api.Cpu) {
		for i := range 8 {
			c.Pmp.Cfg[i] = 0x9f
		}
	})
	c.Pmp.Cfg[0] = 0x99
	gives(t, c, b, all(0x3b0), ram+4, api.Done{Rd: 1})
}

// TestP12_9All: those that do not write, at every number, in both modes: what Read answers goes to rd, and nothing else changes but Pc.
func TestP12_9All(t *testing.T) {
	b := of(t, rich(8))
	u := with(user(7), 1, 2, 3)
	u.Mcounteren, u.Mcycle, u.Minstret = 5, 99, 98
	m := scratched(u, 0xfedc)
	m.Mode = api.M
	for n := range int64(4096) {
		for i, c := range []api.Cpu{u, m} {
			v, may := csr.Read(c, b.Mip(), b.Time(), int(n))
			op := []int{api.OpCsrrs, api.OpCsrrc, api.OpCsrrsi, api.OpCsrrci}[(int(n)+i)%4]
			in := api.Instr{Op: op, Rd: 2, Imm: n, Len: 4, Raw: 77}
			if may {
				gives(t, c, b, in, ram+4, api.Done{Rd: 2, Val: v})
			} else {
				stops(t, c, b, in, 2, 77)
			}
		}
	}
	if !sameState(rich(8), b.State()) {
		t.Errorf("the bus is\n%+v", b.State())
	}
}

// TestP12_9Each: each of the four at CSRs of every kind.
func TestP12_9Each(t *testing.T) {
	b := of(t, rich(8))
	c := scratched(with(machine(), 1, 2, 3), 0xfedc)
	c.Mcycle, c.Minstret, c.Mcause, c.Mtval, c.Mepc = 5, 6, 7, 8, 9
	for _, n := range csrs() {
		v, may := csr.Read(c, b.Mip(), b.Time(), int(n))
		for _, op := range []int{api.OpCsrrs, api.OpCsrrc, api.OpCsrrsi, api.OpCsrrci} {
			for _, rd := range []int{0, 3} {
				in := api.Instr{Op: op, Rd: rd, Imm: n, Len: 4, Raw: 77}
				switch {
				case !may:
					stops(t, c, b, in, 2, 77)
				case rd == 0:
					gives(t, c, b, in, ram+4, api.Done{})
				default:
					gives(t, c, b, in, ram+4, api.Done{Rd: rd, Val: v})
				}
			}
		}
	}
}
