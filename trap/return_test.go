package trap_test

import (
	"testing"

	"anvil/api"
	"anvil/trap"
)

// TestP10_3Status: every combination of MIE, MPIE, MPP, MPRV and TW in M.
func TestP10_3Status(t *testing.T) {
	for _, status := range statuses() {
		want := api.Cpu{Mode: api.U, Mstatus: uxl | mpie | status&tw, Pc: 0x1234, Mepc: 0x1234}
		if status&mpp == mpp {
			want.Mode = api.M
			want.Mstatus |= status & mprv
		}
		if status&mpie != 0 {
			want.Mstatus |= mie
		}
		c := hart(api.M, status)
		c.Mepc = 0x1235
		same(t, "the Cpu behind Return", back(t, c), want)
	}
}

// TestP10_3InU: below M a Return is refused, and the Cpu stays as it is, made proper.
func TestP10_3InU(t *testing.T) {
	for _, c := range []api.Cpu{{}, full(), hart(0, 0)} {
		for _, c.Mode = range modes() {
			if c.Mode == api.M {
				continue
			}
			for _, c.Mstatus = range statuses() {
				d, legal := trap.Return(c)
				if legal {
					t.Errorf("mode %d, Mstatus %#x: Return is legal", c.Mode, c.Mstatus)
				}
				same(t, "the Cpu of a Return that is refused", d, modelProper(c))
			}
		}
	}
}

// TestP10_3Pc: Pc is Mepc, with all bits but bit 0, and Mepc stays.
func TestP10_3Pc(t *testing.T) {
	for _, v := range causes() {
		c := hart(api.M, mpp)
		c.Mepc = v
		if d := back(t, c); d.Pc != v&^1 || d.Mepc != v&^1 {
			t.Errorf("Mepc %#x: Pc %#x, Mepc %#x", v, d.Pc, d.Mepc)
		}
	}
}

// TestP10_3Res: a reservation ends, to whichever mode the Return is; in U, where it is refused, it stays.
func TestP10_3Res(t *testing.T) {
	for _, res := range []api.Res{{Valid: true, Size: 4}, {Valid: true, Addr: 0x80000008, Size: 8}} {
		for _, status := range []uint64{0, mpp} {
			c := hart(api.M, status)
			c.Res = res
			if d := back(t, c); d.Res != (api.Res{}) {
				t.Errorf("Res %+v: behind Return %+v", res, d.Res)
			}
			c.Mode = api.U
			if d, _ := trap.Return(c); d.Res != res {
				t.Errorf("Res %+v: behind a Return in U %+v", res, d.Res)
			}
		}
	}
}

// TestP10_3Else: all that a Return does not say stays, field by field; that the hart waits too.
func TestP10_3Else(t *testing.T) {
	for _, c := range []api.Cpu{{Mode: api.M}, {Mode: api.M, Mstatus: mpp, Waiting: true}} {
		if d := back(t, c); d.Waiting != c.Waiting {
			t.Errorf("Waiting was %v, is %v", c.Waiting, d.Waiting)
		}
	}
	for _, status := range []uint64{0, mpp | mpie} {
		eachField(t, " Pc Mstatus ", func(c api.Cpu) api.Cpu {
			c.Mstatus = status
			d, _ := trap.Return(c)
			return d
		})
	}
}

// TestP10_8ToU: behind a Return to U MPRV is 0.
func TestP10_8ToU(t *testing.T) {
	for _, c := range someCpus(10, 5000) {
		if d, legal := trap.Return(c); legal && d.Mode == api.U && d.Mstatus&mprv != 0 {
			t.Errorf("Mstatus %#x: behind Return %#x", c.Mstatus, d.Mstatus)
		}
	}
}
