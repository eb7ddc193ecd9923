package hart_test

import (
	"testing"

	"anvil/api"
	"anvil/hart"
)

// TestH9Waits: a hart that waits, with no line and with lines that Mie has not, in M and in U, whatever MIE is: nothing changes but Mcycle and what the world brings.
func TestH9Waits(t *testing.T) {
	for _, c := range both() {
		for _, one := range []struct {
			heard uint64
			world api.World
		}{
			{0, api.World{}},
			{soft | timer | external, api.World{}},
			{timer | external, api.World{Soft: true}},
			{soft | timer, api.World{Ext: true, Input: []byte("ab")}},
			{soft | external, api.World{Tick: true}},
			{0, api.World{Soft: true, Ext: true, Tick: true, Input: []byte("c")}},
		} {
			for _, status := range []uint64{0, mie} {
				c := waiting(listening(full(c), one.heard, status))
				s := saying(t, ticking(quiet(little)), "addi x4, x0, 1")
				b := of(t, s)
				d := gives(t, c, b, one.world, row(c, api.RowWait))
				d.Mcycle--
				if d != c || !d.Waiting {
					t.Errorf("the Cpu is\n%+v, was\n%+v", d, c)
				}
				sameBus(t, "a hart that waits", modelBegin(s, one.world), b.State())
			}
		}
	}
}

// TestH9Woken: a line that Mie has wakes the hart: with MIE 0 in M the instruction at Pc is done in this very step, with MIE 1 and in U the interrupt is taken in this very step.
func TestH9Woken(t *testing.T) {
	in := says(t, "addi x4, x0, 1")
	for _, one := range []struct {
		world api.World
		n     uint64
	}{{api.World{Soft: true}, 3}, {api.World{Tick: true}, 7}, {api.World{Ext: true}, 11}} {
		s := saying(t, ticking(quiet(little)), "addi x4, x0, 1")
		m := waiting(listening(full(machine()), 1<<one.n, 0))
		want := fetched(row(m, api.RowRetire), in)
		want.Rd, want.Val, want.Next = 4, 1, ram+4
		d := gives(t, m, of(t, s), one.world, want)
		if d.Waiting {
			t.Errorf("interrupt %d: the hart waits still", one.n)
		}
		taken := trapped(m, api.RowInterrupt, interrupt+one.n, 0, 0x4000)
		m.Mstatus |= mie
		d = gives(t, m, of(t, s), one.world, taken)
		if d.Waiting || d.Mepc != ram {
			t.Errorf("interrupt %d: the Cpu is %+v", one.n, d)
		}
		for _, status := range []uint64{0, mie} {
			u := waiting(listening(full(user(7)), 1<<one.n, status))
			gives(t, u, of(t, s), one.world, trapped(u, api.RowInterrupt, interrupt+one.n, 0, 0x4000))
		}
	}
}

// TestH9Exception: a hart that is woken may meet an exception in this very step, or wait anew.
func TestH9Exception(t *testing.T) {
	c := waiting(listening(full(machine()), soft, 0))
	w := api.World{Soft: true}
	d := gives(t, c, program(t, "ebreak"), w, fetched(trapped(c, api.RowException, 3, ram, 0x4000), says(t, "ebreak")))
	if d.Waiting {
		t.Errorf("the hart waits still")
	}
	gives(t, at(c, 0x20), program(t), w, trapped(at(c, 0x20), api.RowException, 1, 0x20, 0x4000))
	want := fetched(row(c, api.RowRetire), says(t, "wfi"))
	want.Next = ram + 4
	gives(t, c, program(t, "wfi"), w, want, func(c *api.Cpu) { c.Waiting = true })
}

// TestH9First: a hart that waits goes on with the first step at which mip and Mie have a common bit, by whatever brings it.
func TestH9First(t *testing.T) {
	for _, c := range both() {
		for steps := range 6 {
			s := saying(t, quiet(little), "wfi", "addi x4, x0, 1")
			s.Mtimecmp = s.Mtime + uint64(steps) + 1
			b := of(t, s)
			c, r := hart.Step(listening(c, timer|external, 0), b, api.World{})
			if r.Kind != api.RowRetire || !c.Waiting {
				t.Fatalf("the row is %+v, the Cpu %+v", r, c)
			}
			for range steps {
				if c, r = hart.Step(c, b, api.World{Tick: true, Soft: true, Input: []byte("x")}); r.Kind != api.RowWait || r.Pc != ram+4 || r.Next != ram+4 {
					t.Fatalf("the row is %+v", r)
				}
			}
			c, r = hart.Step(c, b, api.World{Tick: true})
			want := map[int]int{api.M: api.RowRetire, api.U: api.RowInterrupt}[r.Mode]
			if r.Kind != want || r.Pc != ram+4 || c.Waiting || c.Mcycle != uint64(steps)+2 {
				t.Errorf("behind %d steps: the row is %+v, Mcycle %d", steps, r, c.Mcycle)
			}
		}
	}
}
