package trap_test

import (
	"testing"

	"anvil/api"
	"anvil/trap"
)

// TestP10_4Wait: in every mode, with every Mstatus: the Cpu waits, and nothing else changes, but in U with TW it does not.
func TestP10_4Wait(t *testing.T) {
	for _, c := range []api.Cpu{hart(0, 0), full()} {
		for _, c.Waiting = range []bool{false, true} {
			for _, c.Mode = range modes() {
				for _, c.Mstatus = range statuses() {
					d, legal := trap.Wait(c)
					want := modelProper(c)
					refused := c.Mode != api.M && c.Mstatus&tw != 0
					want.Waiting = c.Waiting || !refused
					if legal == refused {
						t.Errorf("mode %d, Mstatus %#x: Wait: %v", c.Mode, c.Mstatus, legal)
					}
					same(t, "the Cpu behind Wait", d, want)
				}
			}
		}
	}
}

func TestP10_4Else(t *testing.T) {
	eachField(t, " ", func(c api.Cpu) api.Cpu {
		d, _ := trap.Wait(c)
		return d
	})
}

// TestP10_4Res: waiting leaves a reservation.
func TestP10_4Res(t *testing.T) {
	c := hart(api.M, 0)
	c.Res = api.Res{Valid: true, Addr: 16, Size: 8}
	if d, _ := trap.Wait(c); d.Res != c.Res {
		t.Errorf("behind Wait Res is %+v", d.Res)
	}
}

// TestP10_5Effective: every combination of Mode, MPRV and MPP, written out.
func TestP10_5Effective(t *testing.T) {
	for _, one := range []struct {
		mode   int
		status uint64
		want   int
	}{
		{3, 0, 3}, {3, 1 << 11, 3}, {3, 2 << 11, 3}, {3, mpp, 3},
		{3, mprv, 0}, {3, mprv | 1<<11, 0}, {3, mprv | 2<<11, 0}, {3, mprv | mpp, 3},
		{0, 0, 0}, {0, 1 << 11, 0}, {0, 2 << 11, 0}, {0, mpp, 0},
		{0, mprv, 0}, {0, mprv | 1<<11, 0}, {0, mprv | 2<<11, 0}, {0, mprv | mpp, 0},
		{1, 0, 0}, {2, mpp, 0}, {-1, mprv | mpp, 0}, {7, mprv | mpp, 0}, {4, 0, 0},
	} {
		for _, rest := range []uint64{0, uxl, mie | mpie | tw, ones &^ (mprv | mpp)} {
			if m := trap.Effective(api.Cpu{Mode: one.mode, Mstatus: one.status | rest}); m != one.want {
				t.Errorf("mode %d, Mstatus %#x: effective is %d, want %d", one.mode, one.status|rest, m, one.want)
			}
		}
	}
}

// TestP10_8Effective: in U it is U; in M it is M, unless MPRV is set and MPP is U.
func TestP10_8Effective(t *testing.T) {
	for _, c := range someCpus(11, 5000) {
		p := modelProper(c)
		want := p.Mode
		if p.Mstatus&mprv != 0 && p.Mstatus&mpp == 0 {
			want = api.U
		}
		if m := trap.Effective(c); m != want {
			t.Errorf("mode %d, Mstatus %#x: effective is %d, want %d", c.Mode, c.Mstatus, m, want)
		}
	}
}
