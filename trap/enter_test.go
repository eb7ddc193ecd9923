package trap_test

import (
	"testing"

	"anvil/api"
	"anvil/trap"
)

// TestP10_2Status: every combination of MIE, MPIE, MPP, MPRV and TW, from M and from U.
func TestP10_2Status(t *testing.T) {
	for _, mode := range modes() {
		for _, status := range statuses() {
			want := uint64(uxl) | status&(mprv|tw)
			if status&mie != 0 {
				want |= mpie
			}
			if mode == api.M {
				want |= mpp
			}
			for _, cause := range []uint64{2, comes + 7} {
				d := trap.Enter(hart(mode, status), cause, 0)
				same(t, "the Cpu behind Enter", d, api.Cpu{Mode: api.M, Mstatus: want, Mepc: 0x80000000, Mcause: cause})
			}
		}
	}
}

// TestP10_2Handler: every value of Mtvec's low two bits with every cause: bit 1 does not count, bit 0 with interrupts alone, and the sum wraps.
func TestP10_2Handler(t *testing.T) {
	for _, vector := range vectors() {
		for _, cause := range causes() {
			c := hart(api.M, 0)
			c.Mtvec = vector
			want := vector - vector%4
			if cause >= comes && vector%2 == 1 {
				want += (cause - comes) * 4
			}
			d := trap.Enter(c, cause, 0)
			if d.Pc != want || d.Mtvec != vector&^2 || d.Mcause != cause {
				t.Errorf("Mtvec %#x, cause %#x: Pc %#x, Mtvec %#x, Mcause %#x, want Pc %#x", vector, cause, d.Pc, d.Mtvec, d.Mcause, want)
			}
		}
	}
}

// TestP10_2Wraps: handlers beyond the last address, written out.
func TestP10_2Wraps(t *testing.T) {
	for _, one := range []struct{ vector, cause, pc uint64 }{
		{ones, comes + 1, 0}, {ones, comes, ones - 3}, {ones, 1, ones - 3}, {ones - 1, comes + 1, ones - 3},
		{ones - 2, comes + 7, 24}, {0x101, comes + 1<<62, 0x100}, {0x101, comes + 1<<62 + 11, 0x12c},
		{0x101, comes + 1<<61, 1<<63 + 0x100}, {1<<63 + 1, comes + 1<<61, 0}, {5, ones, 0},
	} {
		c := hart(api.U, 0)
		c.Mtvec = one.vector
		if d := trap.Enter(c, one.cause, 0); d.Pc != one.pc {
			t.Errorf("Mtvec %#x, cause %#x: Pc %#x, want %#x", one.vector, one.cause, d.Pc, one.pc)
		}
	}
}

// TestP10_2Told: cause and tval are told with all their bits, and Pc but bit 0.
func TestP10_2Told(t *testing.T) {
	values := append(causes(), 0x80000001, ones-6)
	for i, v := range values {
		c := hart(api.M, 0)
		c.Pc = values[len(values)-1-i]
		d := trap.Enter(c, v, ^v)
		if d.Mcause != v || d.Mtval != ^v || d.Mepc != c.Pc&^1 {
			t.Errorf("Enter at %#x with %#x, %#x: Mepc %#x, Mcause %#x, Mtval %#x", c.Pc, v, ^v, d.Mepc, d.Mcause, d.Mtval)
		}
	}
}

// TestP10_2Ends: waiting and any reservation end.
func TestP10_2Ends(t *testing.T) {
	for _, res := range []api.Res{{}, {Valid: true, Size: 4}, {Valid: true, Addr: ones - 7, Size: 8}, {Addr: 8, Size: 8}, {Valid: true, Addr: 1, Size: 4}} {
		for _, waiting := range []bool{false, true} {
			c := hart(api.U, 0)
			c.Res, c.Waiting = res, waiting
			if d := trap.Enter(c, comes+3, 0); d.Res != (api.Res{}) || d.Waiting {
				t.Errorf("Res %+v, waiting %v: behind Enter %+v, %v", res, waiting, d.Res, d.Waiting)
			}
		}
	}
}

// TestP10_2Else: all that a trap does not say stays, field by field, with each bit alone and with all.
func TestP10_2Else(t *testing.T) {
	turned := " Pc Mepc Mcause Mtval Mstatus "
	eachField(t, turned, func(c api.Cpu) api.Cpu { return trap.Enter(c, 2, 5) })
	eachField(t, turned, func(c api.Cpu) api.Cpu { return trap.Enter(c, comes+7, 0) })
}

// TestP10_2Any: Cpus of any bits, against the model.
func TestP10_2Any(t *testing.T) {
	r := random(8)
	list := causes()
	for _, c := range someCpus(9, 5000) {
		for range 4 {
			cause, tval := list[r.IntN(len(list))], anyWord(r)
			same(t, "Enter", trap.Enter(c, cause, tval), modelEnter(c, cause, tval))
		}
	}
}
