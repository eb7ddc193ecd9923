package hart_test

import (
	"testing"

	"anvil/api"
)

// ticking is a quiet state whose timer is up behind one tick.
func ticking(s api.Bus) api.Bus {
	s.Mtimecmp = s.Mtime + 1
	return s
}

// listened is a state whose console has an interrupt as soon as it has input.
func listened(s api.Bus) api.Bus {
	s.Ier, s.Input = 1, nil
	return s
}

// TestH5Each: each interrupt by itself, from each source, those that the world brings at this very step too; in M and in U, with Mtvec's bit 0 clear and set.
func TestH5Each(t *testing.T) {
	raised := quiet(little)
	raised.Msip = 1
	for _, one := range []struct {
		name  string
		state api.Bus
		world api.World
		n     uint64
	}{
		{"the world's software line", quiet(little), api.World{Soft: true}, 3},
		{"msip", raised, api.World{}, 3},
		{"the world's external line", quiet(little), api.World{Ext: true}, 11},
		{"the console's line", listened(quiet(little)), api.World{Input: []byte("a")}, 11},
		{"the timer", ticking(quiet(little)), api.World{Tick: true}, 7},
	} {
		for _, c := range both() {
			for flag := range uint64(2) {
				c := listening(full(c), 1<<one.n, mie)
				c.Mtvec = 0x4000 + flag
				next := 0x4000 + flag*4*one.n
				s := saying(t, one.state, "addi x1, x0, 1")
				d := gives(t, c, of(t, s), one.world, trapped(c, api.RowInterrupt, interrupt+one.n, 0, next))
				if d.Mcause != interrupt+one.n || d.Mtval != 0 || d.Mepc != ram || d.X != c.X || d.Minstret != c.Minstret || d.Mcycle != c.Mcycle+1 {
					t.Errorf("%s: the Cpu is\n%+v", one.name, d)
				}
			}
		}
	}
}

// lines is a state and a world with these bits of mip.
func lines(bits uint64) (api.Bus, api.World) {
	s := quiet(little)
	if bits&timer != 0 {
		s.Mtimecmp = s.Mtime
	}
	return s, api.World{Soft: bits&soft != 0, Ext: bits&external != 0}
}

// lineSets is every choice of the three lines.
func lineSets() []uint64 {
	return []uint64{0, soft, timer, soft | timer, external, external | soft, external | timer, external | soft | timer}
}

// first is the number of the interrupt that goes ahead of the others: 11 ahead of 3 ahead of 7; 0: none.
func first(bits uint64) uint64 {
	switch {
	case bits&external != 0:
		return 11
	case bits&soft != 0:
		return 3
	case bits&timer != 0:
		return 7
	}
	return 0
}

// TestH5Several: every choice of lines, of Mie and of MIE, in M and in U, with Mtvec's bit 0 clear and set, the hart waiting or not.
func TestH5Several(t *testing.T) {
	in := says(t, "addi x4, x0, 1")
	for _, up := range lineSets() {
		for _, heard := range lineSets() {
			for variant := range 8 {
				for _, c := range both() {
					c := listening(full(c), heard, uint64(variant&1)*mie)
					c.Waiting = variant&2 != 0
					c.Mtvec = 0x4000 + uint64(variant>>2)
					taken := c.Mode == api.U || variant&1 != 0
					s, w := lines(up)
					b := of(t, saying(t, s, "addi x4, x0, 1"))
					n := first(up & heard)
					want := row(c, api.RowWait)
					switch {
					case n != 0 && taken:
						want = trapped(c, api.RowInterrupt, interrupt+n, 0, 0x4000+uint64(variant>>2)*4*n)
					case n != 0 || !c.Waiting:
						want = fetched(row(c, api.RowRetire), in)
						want.Rd, want.Val, want.Next = 4, 1, ram+4
					}
					gives(t, c, b, w, want)
				}
			}
		}
	}
}

// TestH5Ahead: an instruction that lets an interrupt in, or raises one, retires; it is taken at the next step.
func TestH5Ahead(t *testing.T) {
	for _, one := range []struct {
		text  string
		cpu   api.Cpu
		world api.World
	}{
		{"csrrsi x0, mstatus, 8", listening(machine(), soft, 0), api.World{Soft: true}},
		{"csrrs x0, mie, x1", with(listening(machine(), 0, mie), soft), api.World{Soft: true}},
		{"sw x1, 0(x2)", with(listening(machine(), soft, mie), 1, msip), api.World{}},
		{"mret", listening(at(machine(), ram), soft, mpie), api.World{Soft: true}},
	} {
		b := program(t, one.text)
		one.cpu.Mepc = ram + 4
		d, r, _ := asModel(t, one.cpu, b.State(), one.world)
		if r.Kind != api.RowRetire || d.Pc != ram+4 {
			t.Errorf("%s: the row is %+v", one.text, r)
		}
		c := gives(t, one.cpu, b, one.world, r, func(c *api.Cpu) { *c = d })
		gives(t, c, b, one.world, trapped(c, api.RowInterrupt, interrupt+3, 0, 0))
	}
}

// TestH5Cut: an instruction that would shut an interrupt out, or take its line down, is not done: the interrupt comes ahead of it.
func TestH5Cut(t *testing.T) {
	raised := quiet(little)
	raised.Msip = 1
	for _, text := range []string{"csrrci x0, mstatus, 8", "csrrw x0, mie, x0", "sw x0, 0(x2)", "ecall", "c.ebreak"} {
		c := with(listening(machine(), soft, mie), 1, msip)
		b := of(t, saying(t, raised, text))
		gives(t, c, b, api.World{}, trapped(c, api.RowInterrupt, interrupt+3, 0, 0))
		sameBus(t, text, saying(t, raised, text), b.State())
	}
	c := at(listening(user(0), soft, 0), 0)
	gives(t, c, of(t, raised), api.World{}, trapped(c, api.RowInterrupt, interrupt+3, 0, 0))
}

// TestH5Gone: a line that the world before has brought and this one has not is down.
func TestH5Gone(t *testing.T) {
	for _, w := range []api.World{{Ext: true}, {Soft: true}} {
		s := quiet(little)
		s.Ext, s.Soft = w.Ext, w.Soft
		c := listening(machine(), soft|external, mie)
		in := says(t, "c.nop")
		want := fetched(row(c, api.RowRetire), in)
		want.Next = ram + 2
		gives(t, c, of(t, saying(t, s, "c.nop")), api.World{}, want)
		gives(t, waiting(c), of(t, s), api.World{}, row(c, api.RowWait))
	}
}

// TestH5Read: mip and time as an instruction reads them are those that the world of this step has left.
func TestH5Read(t *testing.T) {
	for _, one := range []struct {
		text  string
		world api.World
		value uint64
	}{
		{"csrrs x4, mip, x0", api.World{}, 0},
		{"csrrs x4, mip, x0", api.World{Soft: true}, soft},
		{"csrrs x4, mip, x0", api.World{Ext: true}, external},
		{"csrrs x4, mip, x0", api.World{Input: []byte("a")}, external},
		{"csrrs x4, mip, x0", api.World{Tick: true}, timer},
		{"csrrs x4, mip, x0", api.World{Tick: true, Ext: true, Soft: true}, soft | timer | external},
		{"csrrs x4, time, x0", api.World{}, 0x8123456789abcdef},
		{"csrrs x4, time, x0", api.World{Tick: true}, 0x8123456789abcdf0},
	} {
		c := machine()
		b := of(t, saying(t, listened(ticking(quiet(little))), one.text))
		want := fetched(row(c, api.RowRetire), says(t, one.text))
		want.Rd, want.Val, want.Next = 4, one.value, ram+4
		gives(t, c, b, one.world, want)
	}
}
