package exec_test

import (
	"testing"

	"anvil/api"
)

// TestP12_3Ecall: cause 8 of U, 11 of M; a mode that is none is U; MPRV does not count.
func TestP12_3Ecall(t *testing.T) {
	b := of(t, rich(8))
	for _, one := range []struct {
		mode  int
		cause uint64
	}{{api.M, 11}, {api.U, 8}, {1, 8}, {2, 8}, {-1, 8}, {7, 8}} {
		for _, status := range []uint64{0, mprv, mprv | mpp, ones} {
			c := machine()
			c.Mode, c.Mstatus = one.mode, status
			for _, in := range []api.Instr{{Len: 4}, {Len: 2, Rd: 1, Rs1: 2, Imm: 9, Raw: 0x73}} {
				in.Op = api.OpEcall
				stops(t, c, b, in, one.cause, 0)
			}
		}
	}
}

// TestP12_3Ebreak: cause 3 and Pc, in every mode, of both lengths.
func TestP12_3Ebreak(t *testing.T) {
	b := of(t, rich(8))
	for _, pc := range []uint64{0, ram, ram + 6, ram + 7, ones} {
		for _, mode := range []int{api.M, api.U, 5} {
			for _, n := range []int{2, 4} {
				c := at(machine(), pc)
				c.Mode = mode
				stops(t, c, b, api.Instr{Op: api.OpEbreak, Rd: 1, Imm: 3, Len: n, Raw: 0x9002}, 3, pc&^1)
			}
		}
	}
}

// TestP12_3Mret: in M, to both modes: Pc is Mepc, whatever the length, and Mstatus as the trap's return says; below M it is illegal.
func TestP12_3Mret(t *testing.T) {
	b := of(t, rich(8))
	for _, one := range []struct {
		status, behind uint64
		mode           int
	}{
		{0, mpie, api.U}, {mpie, mpie | mie, api.U}, {mie, mpie, api.U}, {mprv | tw, mpie | tw, api.U},
		{mpp, mpie, api.M}, {mpp | mpie | mprv, mpie | mie | mprv, api.M}, {1 << 11, mpie, api.U},
	} {
		for _, n := range []int{2, 4} {
			c := holding(with(machine(), 1, 2), ram, 8)
			c.Mstatus, c.Mepc = one.status, 0x1235
			in := api.Instr{Op: api.OpMret, Rd: 1, Rs1: 2, Imm: 7, Len: n, Raw: 0x30200073}
			gives(t, c, b, in, 0x1234, api.Done{}, func(c *api.Cpu) {
				c.Mstatus, c.Mode, c.Res = uxl|one.behind, one.mode, api.Res{}
			})
			for _, c.Mode = range []int{api.U, 1, 2, -1, 4} {
				stops(t, c, b, in, 2, 0x30200073)
			}
		}
	}
}

// TestP12_3Wfi: the hart waits, behind the instruction; in U with TW it is illegal.
func TestP12_3Wfi(t *testing.T) {
	b := of(t, rich(8))
	waits := func(c *api.Cpu) { c.Waiting = true }
	for _, n := range []int{2, 4} {
		in := api.Instr{Op: api.OpWfi, Rd: 1, Rs1: 2, Imm: 7, Len: n, Raw: 0x10500073}
		for _, status := range []uint64{0, mie | mpie | mpp | mprv} {
			for _, mode := range []int{api.M, api.U, 2} {
				c := holding(machine(), ram, 4)
				c.Mode, c.Mstatus = mode, status
				gives(t, c, b, in, ram+uint64(n), api.Done{}, waits)
				c.Waiting = true
				gives(t, c, b, in, ram+uint64(n), api.Done{})
				c.Mstatus |= tw
				if mode == api.M {
					gives(t, c, b, in, ram+uint64(n), api.Done{})
					continue
				}
				stops(t, c, b, in, 2, 0x10500073)
				c.Waiting = false
				stops(t, c, b, in, 2, 0x10500073)
			}
		}
	}
}

// TestP12_3Waiting: every other instruction leaves Waiting as it is: that it ends is the hart's business.
func TestP12_3Waiting(t *testing.T) {
	for op := 1; op < api.Ops; op++ {
		for _, waiting := range []bool{false, true} {
			c := with(machine(), ram+8, 5)
			c.Waiting = waiting
			got := do(c, of(t, rich(little)), api.Instr{Op: op, Rd: 3, Rs1: 1, Rs2: 2, Imm: 0x340, Len: 4}).cpu
			if got.Waiting != waiting && op != api.OpWfi {
				t.Errorf("operation %d: Waiting was %v, is %v", op, waiting, got.Waiting)
			}
		}
	}
}
