package hart_test

import (
	"testing"

	"anvil/api"
	"anvil/hart"
)

// TestH4Kinds: what each kind of row does to the counters, with each bit of Mcountinhibit, in M and in U, at the wrap too.
func TestH4Kinds(t *testing.T) {
	for _, c := range both() {
		for _, c.Mcycle = range []uint64{0, 41, ones} {
			for _, c.Minstret = range []uint64{0, 17, ones} {
				for _, c.Mcountinhibit = range []uint64{0, 1, 4, 5} {
					for _, one := range []struct {
						kind            int
						cpu             api.Cpu
						text            string
						off             int
						cycles, retired uint64
					}{
						{api.RowRetire, c, "c.nop", 0, 1, 1},
						{api.RowException, c, "ecall", 0, 1, 0},
						{api.RowException, at(c, 0), "c.nop", 0, 1, 0},
						{api.RowInterrupt, listening(c, soft, mie), "c.nop", 0, 1, 0},
						{api.RowWait, waiting(c), "c.nop", 0, 1, 0},
						{api.RowOff, c, "c.nop", api.Passed, 0, 0},
					} {
						s := saying(t, quiet(little), one.text)
						s.Off = one.off
						d, r := hart.Step(one.cpu, of(t, s), api.World{Soft: true})
						if r.Kind != one.kind {
							t.Fatalf("the row is %+v, want kind %d", r, one.kind)
						}
						cycles := c.Mcycle + one.cycles*(1-c.Mcountinhibit&1)
						retired := c.Minstret + one.retired*(1-c.Mcountinhibit>>2)
						counted(t, d, cycles, retired)
					}
				}
			}
		}
	}
}

// TestH4Written: a step that writes a counter does not count it; one that reads it alone does; the other counter is counted as always. x1 is 0x99, x2 0.
func TestH4Written(t *testing.T) {
	for _, one := range []struct {
		text            string
		cycles, retired uint64 // behind the step of Mcycle 0x50 and Minstret 0x30
		cycle, count    bool   // which of them is written, so that its inhibition does not count
	}{
		{"csrrw x0, mcycle, x1", 0x99, 0x31, true, false},
		{"csrrwi x4, mcycle, 7", 7, 0x31, true, false},
		{"csrrw x0, mcycle, x0", 0, 0x31, true, false},
		{"csrrs x0, mcycle, x1", 0xd9, 0x31, true, false},
		{"csrrs x0, mcycle, x2", 0x50, 0x31, true, false},
		{"csrrc x0, mcycle, x2", 0x50, 0x31, true, false},
		{"csrrci x0, mcycle, 16", 0x40, 0x31, true, false},
		{"csrrs x4, mcycle, x0", 0x51, 0x31, false, false},
		{"csrrci x4, mcycle, 0", 0x51, 0x31, false, false},
		{"csrrs x4, cycle, x0", 0x51, 0x31, false, false},
		{"csrrw x0, minstret, x1", 0x51, 0x99, false, true},
		{"csrrwi x4, minstret, 0", 0x51, 0, false, true},
		{"csrrsi x0, minstret, 1", 0x51, 0x31, false, true},
		{"csrrs x0, minstret, x2", 0x51, 0x30, false, true},
		{"csrrc x0, minstret, x1", 0x51, 0x20, false, true},
		{"csrrs x4, minstret, x0", 0x51, 0x31, false, false},
		{"csrrsi x4, minstret, 0", 0x51, 0x31, false, false},
		{"csrrs x4, instret, x0", 0x51, 0x31, false, false},
		{"csrrw x0, mhpmcounter3, x1", 0x51, 0x31, false, false},
		{"csrrw x0, mscratch, x1", 0x51, 0x31, false, false},
	} {
		for _, inhibit := range []uint64{0, 1, 4, 5} {
			c := with(machine(), 0x99)
			c.Mcycle, c.Minstret, c.Mcountinhibit = 0x50, 0x30, inhibit
			d, r := hart.Step(c, program(t, one.text), api.World{})
			if r.Kind != api.RowRetire {
				t.Fatalf("%s: the row is %+v", one.text, r)
			}
			cycles, retired := one.cycles, one.retired
			if inhibit&1 != 0 && !one.cycle {
				cycles = 0x50
			}
			if inhibit&4 != 0 && !one.count {
				retired = 0x30
			}
			counted(t, d, cycles, retired)
		}
	}
}

// TestH4Refused: a write of a counter that is refused writes nothing, and the cycle is counted.
func TestH4Refused(t *testing.T) {
	for _, c := range both() {
		c = with(full(c), 0x99)
		for _, text := range []string{"csrrw x0, cycle, x1", "csrrw x0, instret, x1", "csrrwi x0, time, 1"} {
			d := gives(t, c, program(t, text), api.World{}, fetched(trapped(c, api.RowException, 2, uint64(says(t, text).Raw), 0x4000), says(t, text)))
			counted(t, d, 0x1001, 0x800)
		}
	}
	c := with(full(user(7)), 0x99)
	for _, text := range []string{"csrrw x0, mcycle, x1", "csrrw x0, minstret, x1", "csrrwi x0, mcountinhibit, 5"} {
		d := gives(t, c, program(t, text), api.World{}, fetched(trapped(c, api.RowException, 2, uint64(says(t, text).Raw), 0x4000), says(t, text)))
		counted(t, d, 0x1001, 0x800)
	}
}

// TestH4Inhibit: a step that writes Mcountinhibit counts by what it was ahead of the step, the next one by what it is.
func TestH4Inhibit(t *testing.T) {
	for was := range uint64(8) {
		for is := range uint64(8) {
			c := with(machine(), is)
			c.Mcountinhibit = was
			b := program(t, "csrrw x0, mcountinhibit, x1", "c.nop")
			cycles, retired := uint64(0), uint64(0)
			for _, now := range []uint64{was, is} {
				cycles += 1 - now&1
				retired += 1 - now>>2
				var r api.Row
				if c, r = hart.Step(c, b, api.World{}); r.Kind != api.RowRetire || c.Mcountinhibit != is&5 {
					t.Fatalf("the row is %+v, Mcountinhibit %d", r, c.Mcountinhibit)
				}
				counted(t, c, cycles, retired)
			}
		}
	}
}

// TestH4Read: what is read of a counter is its number ahead of the step's counting.
func TestH4Read(t *testing.T) {
	b := program(t, "csrrs x1, mcycle, x0", "csrrs x2, minstret, x0", "csrrs x3, cycle, x0", "csrrw x4, minstret, x0", "csrrs x5, instret, x0", "csrrs x6, mcycle, x0")
	c := machine()
	c.Mcycle, c.Minstret = ones, 5
	for range 6 {
		c, _ = hart.Step(c, b, api.World{})
	}
	if got, want := [6]uint64(c.X[1:7]), [6]uint64{ones, 6, 1, 8, 0, 4}; got != want {
		t.Errorf("read: %v, want %v", got, want)
	}
	counted(t, c, 5, 2)
}

// TestH4World: the time is the world's: it is inhibited by nothing, and counted by Tick alone.
func TestH4World(t *testing.T) {
	for inhibit := range uint64(8) {
		s := saying(t, quiet(little), "c.nop", "c.nop", "c.nop")
		s.Mtime = ones - 1
		b := of(t, s)
		c := machine()
		c.Mcountinhibit = inhibit
		for i, tick := range []bool{true, false, true} {
			c, _ = hart.Step(c, b, api.World{Tick: tick})
			if want := []uint64{ones, ones, 0}[i]; b.Time() != want {
				t.Errorf("step %d: the time is %#x, want %#x", i+1, b.Time(), want)
			}
		}
	}
}
