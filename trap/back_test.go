package trap_test

import (
	"testing"

	"anvil/api"
	"anvil/trap"
)

// TestP10_6Back: from every mode, with every Mstatus, there and back: Pc, Mode and MIE are as they were, MPRV too from M.
func TestP10_6Back(t *testing.T) {
	r := random(12)
	for _, mode := range modes() {
		for _, status := range statuses() {
			for _, pc := range []uint64{0, 0x80000000, 0x80000007, ones, r.Uint64()} {
				c := hart(mode, status)
				c.Pc, c.Mtvec = pc, r.Uint64()
				holdBack(t, c, anyWord(r))
			}
		}
	}
}

func TestP10_6BackAny(t *testing.T) {
	r := random(13)
	for _, c := range someCpus(14, 5000) {
		holdBack(t, c, anyWord(r))
	}
}

func holdBack(t *testing.T, c api.Cpu, cause uint64) {
	t.Helper()
	p := modelProper(c)
	d := back(t, trap.Enter(c, cause, 0))
	if d.Pc != p.Pc || d.Mode != p.Mode || d.Mstatus&mie != p.Mstatus&mie {
		t.Errorf("from %#x, mode %d, Mstatus %#x and back: %#x, %d, %#x", p.Pc, p.Mode, p.Mstatus, d.Pc, d.Mode, d.Mstatus)
	}
	if p.Mode == api.M && d.Mstatus&mprv != p.Mstatus&mprv {
		t.Errorf("from M, Mstatus %#x and back: %#x", p.Mstatus, d.Mstatus)
	}
	if p.Mode == api.U && d.Mstatus&mprv != 0 {
		t.Errorf("from U, Mstatus %#x and back: %#x", p.Mstatus, d.Mstatus)
	}
}

// TestP10_6Twice: of two Enters the inner one is told: it came in M, from the outer one's handler, with MIE 0; the outer Pc, Mode and MIE are lost.
func TestP10_6Twice(t *testing.T) {
	r := random(15)
	for _, c := range someCpus(16, 5000) {
		once := trap.Enter(c, anyWord(r), anyWord(r))
		twice := trap.Enter(once, comes+3, 9)
		if twice.Mepc != once.Pc || twice.Mstatus&mpp != mpp || twice.Mstatus&(mie|mpie) != 0 {
			t.Errorf("behind two Enters: Mepc %#x, Mstatus %#x; behind one: Pc %#x", twice.Mepc, twice.Mstatus, once.Pc)
		}
		d := back(t, twice)
		if d.Pc != once.Pc || d.Mode != api.M || d.Mstatus&mie != 0 {
			t.Errorf("behind two Enters and a Return: Pc %#x, mode %d, Mstatus %#x", d.Pc, d.Mode, d.Mstatus)
		}
		if e := back(t, d); e.Pc != once.Pc || e.Mode != api.U || e.Mstatus&mie == 0 {
			t.Errorf("behind two Enters and two Returns: Pc %#x, mode %d, Mstatus %#x", e.Pc, e.Mode, e.Mstatus)
		}
	}
}

// TestP10_6Nested: a handler that sets MIE is told by MPIE.
func TestP10_6Nested(t *testing.T) {
	c := trap.Enter(hart(api.U, 0), 8, 0)
	c.Mstatus |= mie
	d := trap.Enter(c, comes+11, 0)
	if d.Mstatus != uxl|mpp|mpie || d.Mepc != c.Pc {
		t.Errorf("behind the inner Enter: Mstatus %#x, Mepc %#x", d.Mstatus, d.Mepc)
	}
	if e := back(t, d); e.Mstatus != uxl|mie|mpie || e.Mode != api.M {
		t.Errorf("behind the inner Return: Mstatus %#x, mode %d", e.Mstatus, e.Mode)
	}
}
