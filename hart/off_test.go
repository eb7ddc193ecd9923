package hart_test

import (
	"testing"

	"anvil/api"
)

// TestH8Off: with the power off neither the Cpu, nor a counter, nor the bus changes, and nothing of the world comes, whatever the hart would do.
func TestH8Off(t *testing.T) {
	w := api.World{Tick: true, Ext: true, Soft: true, Input: []byte("abc")}
	for _, c := range both() {
		for _, c := range []api.Cpu{
			full(c), waiting(full(c)), listening(full(c), soft|timer|external, mie),
			waiting(listening(full(c), soft|timer|external, mie)), at(full(c), 0),
		} {
			for _, off := range []struct{ off, code int }{{api.Passed, 0}, {api.Failed, 0}, {api.Failed, 65535}} {
				for _, s := range []api.Bus{quiet(little), rich(little)} {
					s := saying(t, s, "sd x1, 0(x2)")
					s.Off, s.Code = off.off, off.code
					c.X[2] = ram + 32
					b := of(t, s)
					for range 3 {
						if d := gives(t, c, b, w, row(c, api.RowOff)); d != c {
							t.Errorf("the Cpu is\n%+v, was\n%+v", d, c)
						}
						sameBus(t, "the power is off", s, b.State())
					}
				}
			}
		}
	}
}

// TestH8Turned: the store that turns the power off retires and is counted; behind it everything stays.
func TestH8Turned(t *testing.T) {
	for _, c := range both() {
		for _, one := range []struct {
			v         uint64
			off, code int
		}{{0x5555, api.Passed, 0}, {0x73333, api.Failed, 7}, {0xffff3333, api.Failed, 65535}} {
			c := with(full(c), finisher, one.v)
			s := saying(t, quiet(little), "sw x2, 0(x1)", "addi x4, x0, 1")
			b := of(t, s)
			want := fetched(row(c, api.RowRetire), says(t, "sw x2, 0(x1)"))
			want.Mem, want.Addr, want.Size, want.Data, want.Next = api.W, finisher, 4, one.v, ram+4
			c = gives(t, c, b, api.World{Tick: true}, want)
			counted(t, c, 0x1001, 0x801)
			s.Mtime, s.Off, s.Code = s.Mtime+1, one.off, one.code
			for range 3 {
				sameBus(t, "turned off", s, b.State())
				c = gives(t, c, b, api.World{Tick: true, Soft: true, Input: []byte("a")}, row(c, api.RowOff))
				counted(t, c, 0x1001, 0x801)
			}
			sameBus(t, "turned off", s, b.State())
		}
	}
}

// TestH8Running: what turns nothing off leaves the hart running.
func TestH8Running(t *testing.T) {
	for _, v := range []uint64{0, 0x5554, 0x3332, 0x55550000, 0x33330000} {
		c := with(machine(), finisher, v)
		b := program(t, "sw x2, 0(x1)", "addi x4, x0, 1")
		want := fetched(row(c, api.RowRetire), says(t, "sw x2, 0(x1)"))
		want.Mem, want.Addr, want.Size, want.Data, want.Next = api.W, finisher, 4, v, ram+4
		c = gives(t, c, b, api.World{}, want)
		want = fetched(row(c, api.RowRetire), says(t, "addi x4, x0, 1"))
		want.Rd, want.Val, want.Next = 4, 1, ram+8
		gives(t, c, b, api.World{}, want)
	}
}
