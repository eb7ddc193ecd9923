package trap_test

import (
	"testing"

	"anvil/api"
	"anvil/trap"
)

// The examples of section 10.5, by their numbers.

func TestExample1OfTrap(t *testing.T) {
	c := hart(api.M, 0)
	c.Mie = 0x888
	noPending(t, c, 0x888)
	c.Mstatus |= mie
	pending(t, c, 0x888, 11)
	pending(t, c, 0x88, 3)
	pending(t, c, 0x80, 7)
	noPending(t, c, 0x200)
	c = hart(api.U, 0)
	c.Mie = 0x80
	pending(t, c, 0x80, 7)
}

func TestExample2OfTrap(t *testing.T) {
	c := hart(api.M, mie)
	c.Mtvec = 0x101
	want := hart(api.M, 0x1880)
	want.Mtvec, want.Pc, want.Mepc, want.Mcause = 0x101, 0x11c, 0x80000000, 1<<63+7
	same(t, "behind an interrupt the Cpu", trap.Enter(c, 1<<63+7, 0), want)
	want.Pc, want.Mcause, want.Mtval = 0x100, 2, 5
	same(t, "behind an exception the Cpu", trap.Enter(c, 2, 5), want)
}

func TestExample3OfTrap(t *testing.T) {
	c := hart(api.U, tw)
	want := hart(api.M, 0x200000)
	want.Pc, want.Mepc, want.Mcause = 0, 0x80000000, 8
	d := trap.Enter(c, 8, 0)
	same(t, "behind an ECALL the Cpu", d, want)
	want.Pc, want.Mode, want.Mstatus = 0x80000000, api.U, uxl|0x200080
	same(t, "behind the Return the Cpu", back(t, d), want)
}

func TestExample4OfTrap(t *testing.T) {
	c := hart(api.M, mprv|mpp|mpie)
	c.Mepc = 0x80000008
	want := c
	want.Pc, want.Mstatus = 0x80000008, uxl|0x20088
	same(t, "behind a Return to M the Cpu", back(t, c), want)
	c.Mstatus &^= mpp
	want.Mode, want.Mstatus = api.U, uxl|0x88
	same(t, "behind a Return to U the Cpu", back(t, c), want)
}

func TestExample5OfTrap(t *testing.T) {
	c := hart(api.U, 0)
	if d, legal := trap.Return(c); legal || d != c {
		t.Errorf("Return in U: %v, %+v", legal, d)
	}
	for _, one := range []struct {
		c     api.Cpu
		legal bool
	}{{hart(api.M, 0), true}, {hart(api.U, tw), false}, {hart(api.U, 0), true}} {
		d, legal := trap.Wait(one.c)
		if legal != one.legal {
			t.Errorf("Wait in mode %d, Mstatus %#x: %v", one.c.Mode, one.c.Mstatus, legal)
		}
		one.c.Waiting = one.legal
		same(t, "behind Wait the Cpu", d, one.c)
	}
}

func TestExample6OfTrap(t *testing.T) {
	got := [...]int{
		trap.Effective(hart(api.M, mprv)),
		trap.Effective(hart(api.M, mprv|mpp)),
		trap.Effective(hart(api.U, mprv|mpp)),
	}
	if want := [...]int{0, 3, 0}; got != want {
		t.Errorf("effective are %d, want %d", got, want)
	}
}

func TestExample7OfTrap(t *testing.T) {
	c := hart(api.M, 0)
	c.Mtvec = 1
	if d := trap.Enter(c, ones, 0); d.Pc != 0xfffffffffffffffc {
		t.Errorf("Pc is %#x, want 0xfffffffffffffffc", d.Pc)
	}
}
