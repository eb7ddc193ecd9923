package hart_test

import (
	"testing"

	"anvil/api"
)

// stored is a state with the bytes that a row tells to be stored in RAM.
func stored(s api.Bus, r api.Row) api.Bus {
	if r.Mem&api.W == 0 {
		return s
	}
	s = holding(s, 0, 0, 0)
	for i := range r.Size {
		s.Ram[int(r.Addr-ram)+i] = byte(r.Data >> (8 * i))
	}
	return s
}

// deed is an instruction, what a row tells of it, and what else it changes; x1 is ram + 32, x2 0x1122334455667788, x3 5.
type deed struct {
	text string
	row  api.Row
	turn func(c *api.Cpu)
}

func deeds() []deed {
	none := func(c *api.Cpu) { c.Res = api.Res{} }
	return []deed{
		{"addi x4, x3, 1", api.Row{Rd: 4, Val: 6}, nil},
		{"addi x3, x3, 0", api.Row{Rd: 3, Val: 5}, nil},
		{"addi x0, x3, 1", api.Row{}, nil},
		{"addi x4, x0, 0", api.Row{Rd: 4}, nil},
		{"c.addi x3, -6", api.Row{Rd: 3, Val: ones}, nil},
		{"c.nop", api.Row{}, nil},
		{"lui x31, 0x80000", api.Row{Rd: 31, Val: 0xffffffff80000000}, nil},
		{"auipc x4, 0x1", api.Row{Rd: 4, Val: 0x80001000}, nil},
		{"mul x4, x2, x3", api.Row{Rd: 4, Val: 0x55ab0055ab0055a8}, nil},
		{"jal x4, 0x80000010", api.Row{Rd: 4, Val: 0x80000004, Next: 0x80000010}, nil},
		{"jalr x4, 1(x1)", api.Row{Rd: 4, Val: 0x80000004, Next: 0x80000020}, nil},
		{"c.jr x1", api.Row{Next: 0x80000020}, nil},
		{"c.jalr x1", api.Row{Rd: 1, Val: 0x80000002, Next: 0x80000020}, nil},
		{"beq x3, x3, 0x7ffffff0", api.Row{Next: 0x7ffffff0}, nil},
		{"bne x3, x3, 0x7ffffff0", api.Row{}, nil},
		{"lb x4, 0(x1)", api.Row{Rd: 4, Val: 0xffffffffffffffa0, Mem: api.R, Addr: 0x80000020, Size: 1}, nil},
		{"lhu x4, 2(x1)", api.Row{Rd: 4, Val: 0xa3a2, Mem: api.R, Addr: 0x80000022, Size: 2}, nil},
		{"ld x4, 8(x1)", api.Row{Rd: 4, Val: 0xafaeadacabaaa9a8, Mem: api.R, Addr: 0x80000028, Size: 8}, nil},
		{"lw x0, 0(x1)", api.Row{Mem: api.R, Addr: 0x80000020, Size: 4}, nil},
		{"sb x2, 3(x1)", api.Row{Mem: api.W, Addr: 0x80000023, Size: 1, Data: 0x88}, nil},
		{"sh x2, -2(x1)", api.Row{Mem: api.W, Addr: 0x8000001e, Size: 2, Data: 0x7788}, nil},
		{"sw x2, 0(x1)", api.Row{Mem: api.W, Addr: 0x80000020, Size: 4, Data: 0x55667788}, nil},
		{"sd x2, 8(x1)", api.Row{Mem: api.W, Addr: 0x80000028, Size: 8, Data: 0x1122334455667788}, nil},
		{"sd x2, 24(x1)", api.Row{Mem: api.W, Addr: 0x80000038, Size: 8, Data: 0x1122334455667788}, none},
		{"lr.w x4, (x1)", api.Row{Rd: 4, Val: 0xffffffffa3a2a1a0, Mem: api.R, Addr: 0x80000020, Size: 4}, func(c *api.Cpu) {
			c.Res = api.Res{Valid: true, Addr: 0x80000020, Size: 4}
		}},
		{"sc.d x4, x2, (x1)", api.Row{Rd: 4, Val: 1}, none},
		{"sc.d x0, x2, (x1)", api.Row{}, none},
		{"amoadd.w x4, x3, (x1)", api.Row{Rd: 4, Val: 0xffffffffa3a2a1a0, Mem: api.R | api.W, Addr: 0x80000020, Size: 4, Data: 0xa3a2a1a5}, nil},
		{"amoswap.d x0, x2, (x1)", api.Row{Mem: api.R | api.W, Addr: 0x80000020, Size: 8, Data: 0x1122334455667788}, nil},
		{"fence rw, rw", api.Row{}, nil},
		{"fence.i", api.Row{}, nil},
		{"wfi", api.Row{}, func(c *api.Cpu) { c.Waiting = true }},
		{"csrrs x4, cycle, x0", api.Row{Rd: 4, Val: 0x1000}, nil},
		{"csrrc x4, instret, x0", api.Row{Rd: 4, Val: 0x800}, nil},
	}
}

// TestH2Retire: every field of the rows of instructions that retire, in M and in U, the Cpu, and the bus behind them.
func TestH2Retire(t *testing.T) {
	for _, c := range both() {
		for _, one := range deeds() {
			in := says(t, one.text)
			c := with(full(c), ram+32, 0x1122334455667788, 5)
			want := one.row
			want.Kind, want.Mode, want.Pc, want.NextMode = api.RowRetire, c.Mode, ram, c.Mode
			if want.Next == 0 {
				want.Next = ram + uint64(in.Len)
			}
			s := saying(t, quiet(little), one.text)
			b := of(t, s)
			gives(t, c, b, api.World{}, fetched(want, in), func(c *api.Cpu) {
				if one.turn != nil {
					one.turn(c)
				}
			})
			sameBus(t, one.text, stored(s, want), b.State())
		}
	}
}

// TestH2Conditional: an SC that stores tells a store, and one that does not tells none.
func TestH2Conditional(t *testing.T) {
	for _, c := range both() {
		c = with(c, ram+32, 7)
		for _, text := range []string{"sc.w x4, x2, (x1)", "sc.d x4, x2, (x1)"} {
			in := says(t, text)
			size := 4
			if in.Op == api.OpScD {
				size = 8
			}
			c.Res = api.Res{Valid: true, Addr: ram + 32, Size: size}
			b := program(t, text)
			want := fetched(row(c, api.RowRetire), in)
			want.Rd, want.Mem, want.Addr, want.Size, want.Data, want.Next = 4, api.W, ram+32, size, 7, ram+4
			none := func(c *api.Cpu) { c.Res = api.Res{} }
			d := gives(t, c, b, api.World{}, want, none)
			want.Val, want.Mem, want.Addr, want.Size, want.Data = 1, 0, 0, 0, 0
			gives(t, at(d, ram), b, api.World{}, want, none)
		}
	}
}

// TestH2Machine: the rows of what M alone may do, NextMode of an MRET with them.
func TestH2Machine(t *testing.T) {
	c := with(full(machine()), 0, 0x99)
	c.X[1] = 0
	in := says(t, "csrrw x4, mscratch, x2")
	want := fetched(row(c, api.RowRetire), in)
	want.Rd, want.Val, want.Next = 4, 0x5c5c, ram+4
	gives(t, c, program(t, "csrrw x4, mscratch, x2"), api.World{}, want, func(c *api.Cpu) { c.Mscratch = 0x99 })
	for _, mode := range []int{api.U, api.M} {
		c.Mstatus = uxl | uint64(mode)<<11 | mpie | tw
		want := fetched(row(c, api.RowRetire), says(t, "mret"))
		want.Next, want.NextMode = 0x6666, mode
		gives(t, c, program(t, "mret"), api.World{}, want, func(c *api.Cpu) {
			c.Mstatus, c.Res = uxl|mie|mpie|tw, api.Res{}
		})
	}
}

// TestH2Device: a load and a store of devices, and what they leave behind.
func TestH2Device(t *testing.T) {
	for _, c := range both() {
		c = with(c, console, 0x41)
		s := saying(t, quiet(little), "lbu x4, 0(x1)", "sb x2, 0(x1)")
		b := of(t, s)
		want := fetched(row(c, api.RowRetire), says(t, "lbu x4, 0(x1)"))
		want.Rd, want.Val, want.Mem, want.Addr, want.Size, want.Next = 4, 0xe9, api.R, console, 1, ram+4
		c = gives(t, c, b, api.World{}, want)
		s.Input = s.Input[1:]
		sameBus(t, "a load of the console", s, b.State())
		want = fetched(row(c, api.RowRetire), says(t, "sb x2, 0(x1)"))
		want.Mem, want.Addr, want.Size, want.Data, want.Next = api.W, console, 1, 0x41, ram+8
		gives(t, c, b, api.World{}, want)
		s.Output = []byte("outA")
		sameBus(t, "a store to the console", s, b.State())
	}
}

// TestH2Others: every field of the rows of the other kinds, in M and in U, with their Next and NextMode.
func TestH2Others(t *testing.T) {
	for _, c := range both() {
		c = full(c)
		b := program(t, "ecall")
		gives(t, waiting(c), b, api.World{}, api.Row{Kind: api.RowWait, Mode: c.Mode, Pc: ram, Next: ram, NextMode: c.Mode})
		cause := map[int]uint64{api.U: 8, api.M: 11}[c.Mode]
		gives(t, c, b, api.World{}, api.Row{Kind: api.RowException, Mode: c.Mode, Pc: ram, Raw: 0x73, Len: 4, Cause: cause, Next: 0x4000, NextMode: api.M})
		gives(t, listening(c, soft, mie), b, api.World{Soft: true}, api.Row{Kind: api.RowInterrupt, Mode: c.Mode, Pc: ram, Cause: 0x8000000000000003, Next: 0x4000, NextMode: api.M})
		s := saying(t, rich(little), "ecall")
		s.Off = api.Passed
		gives(t, listening(c, soft, mie), of(t, s), api.World{Soft: true}, api.Row{Kind: api.RowOff, Mode: c.Mode, Pc: ram, Next: ram, NextMode: c.Mode})
	}
}

// TestH1World: behind each kind of row but Off the bus has what the world brought, and nothing else is changed; the next world's lines take the place of these.
func TestH1World(t *testing.T) {
	w := api.World{Tick: true, Ext: true, Soft: true, Input: []byte("ab")}
	for _, c := range both() {
		c = full(c)
		cause := map[int]uint64{api.U: 8, api.M: 11}[c.Mode]
		nop := fetched(row(at(c, ram+4), api.RowRetire), says(t, "c.nop"))
		nop.Next = ram + 6
		for _, one := range []struct {
			cpu  api.Cpu
			want api.Row
		}{
			{at(c, ram+4), nop},
			{c, fetched(trapped(c, api.RowException, cause, 0, 0x4000), says(t, "ecall"))},
			{listening(c, external, mie), trapped(c, api.RowInterrupt, interrupt+11, 0, 0x4000)},
			{waiting(c), row(c, api.RowWait)},
		} {
			s := saying(t, quiet(little), "ecall", "c.nop")
			b := of(t, s)
			gives(t, one.cpu, b, w, one.want)
			s.Mtime, s.Ext, s.Soft, s.Input = s.Mtime+1, true, true, []byte("\xe9nputab")
			sameBus(t, "a world", s, b.State())
			gives(t, at(c, ram+4), b, api.World{}, nop)
			s.Ext, s.Soft = false, false
			sameBus(t, "the next world", s, b.State())
		}
	}
}

// TestH1Proper: a Cpu that is not proper is made so first: the row tells Pc and Mode of the proper one, whatever the kind.
func TestH1Proper(t *testing.T) {
	wrong := api.Cpu{Pc: ram + 1, Mode: 1, Mstatus: ones &^ (1 << 12), Mtvec: 0x4002, Mie: ones, Mcounteren: ones, Mcountinhibit: 0xfffa, Menvcfg: ones, Mepc: 0x6667}
	wrong.X[0] = 9
	wrong.Pmp.Cfg[0], wrong.Pmp.Addr[0] = 0x7d, ones
	wrong.Pmp.Cfg[1] = 0x62
	wrong.Res = api.Res{Valid: true, Addr: ram + 4, Size: 8}
	right := api.Cpu{Pc: ram, Mode: api.U, Mstatus: uxl | mie | mpie | mprv | tw, Mtvec: 0x4000, Mie: 0x888, Mcounteren: 7, Menvcfg: 1, Mepc: 0x6666}
	right.Pmp.Cfg[0], right.Pmp.Addr[0] = 0x1d, 1<<54-1
	if modelProper(wrong) != right {
		t.Fatalf("the proper Cpu is %+v", modelProper(wrong))
	}
	in := says(t, "addi x4, x0, 3")
	want := api.Row{Kind: api.RowRetire, Pc: ram, Raw: in.Raw, Len: 4, Rd: 4, Val: 3, Next: ram + 4}
	gives(t, wrong, program(t, "addi x4, x0, 3"), api.World{}, want)
	gives(t, wrong, program(t, "addi x4, x0, 3"), api.World{Ext: true}, trapped(right, api.RowInterrupt, interrupt+11, 0, 0x4000))
	gives(t, waiting(wrong), program(t, "addi x4, x0, 3"), api.World{}, row(right, api.RowWait))
	gives(t, wrong, program(t, "ecall"), api.World{}, fetched(trapped(right, api.RowException, 8, 0, 0x4000), says(t, "ecall")))
	s := quiet(little)
	s.Off = api.Passed
	gives(t, waiting(wrong), of(t, s), api.World{}, row(right, api.RowOff))
}
