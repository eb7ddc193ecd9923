package hart_test

import (
	"testing"

	"anvil/api"
	"anvil/bus"
	"anvil/hart"
)

// holdingWords is a bus with 4096 bytes of RAM that begin with these words, as the chapter's examples have it.
func holdingWords(t *testing.T, words ...uint32) *bus.Bus {
	t.Helper()
	b, e := bus.New(4096)
	if b == nil || e != api.OK {
		t.Fatalf("bus.New answers error %d", e)
	}
	for i, w := range words {
		b.Store(ram+uint64(4*i), 4, uint64(w))
	}
	return b
}

func counted(t *testing.T, c api.Cpu, cycles, retired uint64) {
	t.Helper()
	if c.Mcycle != cycles || c.Minstret != retired {
		t.Errorf("Mcycle is %d, Minstret %d, want %d, %d", c.Mcycle, c.Minstret, cycles, retired)
	}
}

func TestExample1OfHart(t *testing.T) {
	c := api.Cpu{Pc: 0x80000000, Mode: api.M}
	want := api.Row{Kind: api.RowRetire, Mode: 3, Pc: 0x80000000, Raw: 0x00100093, Len: 4, Rd: 1, Val: 1, Next: 0x80000004, NextMode: 3}
	c = gives(t, c, holdingWords(t, 0x00100093), api.World{}, want)
	counted(t, c, 1, 1)
}

func TestExample2OfHart(t *testing.T) {
	b := holdingWords(t)
	c := api.Cpu{Pc: 0x80000000, Mode: api.M}
	c = gives(t, c, b, api.World{}, api.Row{Kind: api.RowException, Mode: 3, Pc: 0x80000000, Len: 2, Cause: 2, NextMode: 3})
	counted(t, c, 1, 0)
	if c.Mepc != 0x80000000 || c.Pc != 0 {
		t.Errorf("Mepc is %#x, Pc %#x", c.Mepc, c.Pc)
	}
	gives(t, c, b, api.World{}, api.Row{Kind: api.RowException, Mode: 3, Cause: 1, NextMode: 3})
}

func TestExample3OfHart(t *testing.T) {
	b := holdingWords(t, 0x10500073, 0x00100093)
	c := api.Cpu{Pc: 0x80000000, Mode: api.M, Mie: 8}
	wfi := api.Row{Kind: api.RowRetire, Mode: 3, Pc: 0x80000000, Raw: 0x10500073, Len: 4, Next: 0x80000004, NextMode: 3}
	c = gives(t, c, b, api.World{}, wfi, func(c *api.Cpu) { c.Waiting = true })
	c = gives(t, c, b, api.World{}, api.Row{Kind: api.RowWait, Mode: 3, Pc: 0x80000004, Next: 0x80000004, NextMode: 3})
	woken := api.Row{Kind: api.RowRetire, Mode: 3, Pc: 0x80000004, Raw: 0x00100093, Len: 4, Rd: 1, Val: 1, Next: 0x80000008, NextMode: 3}
	c = gives(t, c, b, api.World{Soft: true}, woken)
	counted(t, c, 3, 2)
}

func TestExample4OfHart(t *testing.T) {
	b := holdingWords(t, 0x00100093)
	c := api.Cpu{Pc: 0x80000000, Mode: api.M, Mie: 8, Mstatus: 8}
	want := api.Row{Kind: api.RowInterrupt, Mode: 3, Pc: 0x80000000, Cause: 1<<63 + 3, NextMode: 3}
	d := gives(t, c, b, api.World{Soft: true}, want)
	if d.Mepc != 0x80000000 || d.Mcause != 1<<63+3 || d.X[1] != 0 {
		t.Errorf("the Cpu is %+v", d)
	}
	c.Mtvec, want.Next = 0x101, 0x10c
	gives(t, c, b, api.World{Soft: true}, want)
}

func TestExample5OfHart(t *testing.T) {
	b := holdingWords(t, 0x00000073)
	want := api.Row{Kind: api.RowException, Mode: 3, Pc: 0x80000000, Raw: 0x73, Len: 4, Cause: 11, NextMode: 3}
	gives(t, api.Cpu{Pc: 0x80000000, Mode: api.M}, b, api.World{}, want)
	want.Mode, want.Cause = 0, 8
	gives(t, user(api.X), b, api.World{}, want)
}

func TestExample6OfHart(t *testing.T) {
	b := holdingWords(t, 0x0020a023)
	c := with(api.Cpu{Pc: 0x80000000, Mode: api.M}, 0x100000, 0x5555)
	want := api.Row{Kind: api.RowRetire, Mode: 3, Pc: 0x80000000, Raw: 0x0020a023, Len: 4, Mem: api.W, Addr: 0x100000, Size: 4, Data: 0x5555, Next: 0x80000004, NextMode: 3}
	c = gives(t, c, b, api.World{}, want)
	counted(t, c, 1, 1)
	c = gives(t, c, b, api.World{}, api.Row{Kind: api.RowOff, Mode: 3, Pc: 0x80000004, Next: 0x80000004, NextMode: 3})
	counted(t, c, 1, 1)
}

func TestExample7OfHart(t *testing.T) {
	for _, one := range []struct {
		raw             uint32
		cycles, retired uint64
	}{{0xb0201073, 1, 0}, {0x32015073, 1, 1}} {
		c, r := hart.Step(api.Cpu{Pc: 0x80000000, Mode: api.M}, holdingWords(t, one.raw), api.World{})
		if r.Kind != api.RowRetire || c.Mcountinhibit != 0 {
			t.Errorf("%08x: the row is %+v, Mcountinhibit %d", one.raw, r, c.Mcountinhibit)
		}
		counted(t, c, one.cycles, one.retired)
	}
}
