package hart_test

import (
	"bytes"
	"math"
	"slices"
	"testing"

	"anvil/api"
	"anvil/bus"
	"anvil/hart"
	"anvil/speak"
)

// The addresses as the document writes them, and the bits of Mstatus that count here.
const (
	finisher = 0x100000
	msip     = 0x2000000
	mtimecmp = 0x2004000
	mtime    = 0x200bff8
	console  = 0x10000000
	ram      = 0x80000000
	ones     = math.MaxUint64
	mie      = 1 << 3
	mpie     = 1 << 7
	mpp      = 3 << 11
	mprv     = 1 << 17
	tw       = 1 << 21
	uxl      = 2 << 32
)

// The interrupts' bits in mip and Mie, and the bit of their causes.
const (
	soft      = 1 << 3
	timer     = 1 << 7
	external  = 1 << 11
	interrupt = 1 << 63
)

// little is the bytes of RAM of most tests.
const little = 64

// machine is M at the beginning of RAM with nothing else set.
func machine() api.Cpu { return api.Cpu{Pc: ram, Mode: api.M, Mstatus: uxl} }

// user is U at the beginning of RAM with one entry over every address that has these bits.
func user(bits uint8) api.Cpu {
	c := api.Cpu{Pc: ram, Mstatus: uxl}
	c.Pmp.Cfg[0], c.Pmp.Addr[0] = 0x18|bits, 1<<54-1
	return c
}

// both is a Cpu in M and one in U that may do everything.
func both() []api.Cpu { return []api.Cpu{machine(), user(7)} }

// full is a Cpu with something in every field beside Pc, Mode, Mstatus, Mie, Pmp, Waiting and the counters' inhibition.
func full(c api.Cpu) api.Cpu {
	for i := range c.X {
		if i > 0 {
			c.X[i] = 0x100*uint64(i) + 1
		}
	}
	c.Mtvec, c.Mcounteren, c.Menvcfg, c.Mscratch = 0x4000, 5, 1, 0x5c5c
	c.Mepc, c.Mcause, c.Mtval, c.Mcycle, c.Minstret = 0x6666, 0x77, 0x88, 0x1000, 0x800
	c.Res = api.Res{Valid: true, Addr: ram + 56, Size: 8}
	return c
}

// with is a Cpu whose registers from x1 on are these.
func with(c api.Cpu, x ...uint64) api.Cpu {
	copy(c.X[1:], x)
	return c
}

func at(c api.Cpu, pc uint64) api.Cpu {
	c.Pc = pc
	return c
}

func waiting(c api.Cpu) api.Cpu {
	c.Waiting = true
	return c
}

// listening is a Cpu with this Mie and these bits of Mstatus more.
func listening(c api.Cpu, lines, status uint64) api.Cpu {
	c.Mie = lines
	c.Mstatus |= status
	return c
}

// rich is a state of a bus with something in every field, every line up; the top bit of each byte of RAM is set.
func rich(size int) api.Bus {
	s := api.Bus{
		Msip: 1, Mtimecmp: 0x7edcba9876543210, Mtime: 0x8123456789abcdef,
		Ext: true, Soft: true, Ier: 9, Lcr: 0x83, Mcr: 0x15, Scratch: 0xc7, Overrun: true,
		Input: []byte("\xe9nput"), Output: []byte("out"),
	}
	for i := range size {
		s.Ram = append(s.Ram, byte(0x80+i))
	}
	return s
}

// quiet is such a state with every line down.
func quiet(size int) api.Bus {
	s := rich(size)
	s.Msip, s.Mtimecmp, s.Ext, s.Soft, s.Ier = 0, ones, false, false, 8
	return s
}

// says is the bits of an instruction that stands at the beginning of RAM.
func says(t *testing.T, text string) api.Instr {
	t.Helper()
	in, e := speak.Parse(text, ram)
	if e != api.OK {
		t.Fatalf("%q is refused by error %d", text, e)
	}
	return in
}

// holding is a state whose RAM has these bits from a place on.
func holding(s api.Bus, place int, raw uint32, length int) api.Bus {
	s.Ram = slices.Clone(s.Ram)
	for i := range length {
		s.Ram[place+i] = byte(raw >> (8 * i))
	}
	return s
}

// saying is a state whose RAM begins with these instructions, one behind the other.
func saying(t *testing.T, s api.Bus, texts ...string) api.Bus {
	t.Helper()
	place := 0
	for _, text := range texts {
		in := says(t, text)
		s = holding(s, place, in.Raw, in.Len)
		place += in.Len
	}
	return s
}

func of(t *testing.T, s api.Bus) *bus.Bus {
	t.Helper()
	b, e := bus.From(s)
	if b == nil || e != api.OK {
		t.Fatalf("bus.From answers error %d", e)
	}
	return b
}

// program is a bus with every line down whose RAM begins with these instructions.
func program(t *testing.T, texts ...string) *bus.Bus {
	t.Helper()
	return of(t, saying(t, quiet(little), texts...))
}

func sameState(a, b api.Bus) bool {
	return bytes.Equal(a.Ram, b.Ram) && sameDevices(a, b)
}

// sameDevices tells whether all that is not RAM is the same.
func sameDevices(a, b api.Bus) bool {
	registers := func(s api.Bus) [4]uint8 { return [4]uint8{s.Ier, s.Lcr, s.Mcr, s.Scratch} }
	return a.Msip == b.Msip && a.Mtimecmp == b.Mtimecmp && a.Mtime == b.Mtime &&
		a.Ext == b.Ext && a.Soft == b.Soft && registers(a) == registers(b) && a.Overrun == b.Overrun &&
		bytes.Equal(a.Input, b.Input) && bytes.Equal(a.Output, b.Output) && a.Off == b.Off && a.Code == b.Code
}

func sameBus(t *testing.T, name string, want, got api.Bus) {
	t.Helper()
	if !sameState(want, got) {
		t.Errorf("%s: the bus is\n%+v, want\n%+v", name, got, want)
	}
}

// row is a row of this kind ahead of and behind a step that goes nowhere: what else it has is written out where it is asked.
func row(c api.Cpu, kind int) api.Row {
	return api.Row{Kind: kind, Mode: c.Mode, Pc: c.Pc, Next: c.Pc, NextMode: c.Mode}
}

// trapped is the row of a trap that is taken and goes on at this place.
func trapped(c api.Cpu, kind int, cause, tval, next uint64) api.Row {
	r := row(c, kind)
	r.Cause, r.Tval, r.Next, r.NextMode = cause, tval, next, api.M
	return r
}

// fetched is a row with the bits of an instruction.
func fetched(r api.Row, in api.Instr) api.Row {
	r.Raw, r.Len = in.Raw, in.Len
	return r
}

// behind is the Cpu behind a step of c of which this row is told, the counters with it (where none is inhibited).
func behind(c api.Cpu, r api.Row) api.Cpu {
	d := modelProper(c)
	if r.Kind == api.RowOff {
		return d
	}
	d.Mcycle++
	switch r.Kind {
	case api.RowRetire:
		d.Minstret++
		d.Waiting = false
		d.Pc, d.Mode = r.Next, r.NextMode
		if r.Rd != 0 {
			d.X[r.Rd] = r.Val
		}
	case api.RowException, api.RowInterrupt:
		d = modelEnter(d, r.Cause, r.Tval)
	}
	return d
}

// gives does a step and holds what it answers: the row as it is written out, the Cpu as the row tells it, with what turn changes of it.
func gives(t *testing.T, c api.Cpu, b *bus.Bus, w api.World, want api.Row, turn ...func(c *api.Cpu)) api.Cpu {
	t.Helper()
	cpu := behind(c, want)
	for _, one := range turn {
		one(&cpu)
	}
	d, r := hart.Step(c, b, w)
	if r != want {
		t.Errorf("the row is\n%+v, want\n%+v", r, want)
	}
	if d != cpu {
		t.Errorf("row %+v: the Cpu is\n%+v, want\n%+v", r, d, cpu)
	}
	return d
}
