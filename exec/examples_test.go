package exec_test

import (
	"testing"

	"anvil/api"
)

func TestExample1OfExec(t *testing.T) {
	b := blank(t)
	gives(t, machine(), b, api.Instr{Op: api.OpAddi, Rd: 1, Imm: -1, Len: 4}, 0x80000004, api.Done{Rd: 1, Val: ones})
	gives(t, machine(), b, api.Instr{Op: api.OpAddi, Imm: -1, Len: 4}, 0x80000004, api.Done{})
	gives(t, machine(), b, api.Instr{Op: api.OpAddi, Rd: 1, Imm: -1, Len: 2}, 0x80000002, api.Done{Rd: 1, Val: ones})
}

func TestExample2OfExec(t *testing.T) {
	b := blank(t)
	gives(t, with(machine(), 0x80000010), b, api.Instr{Op: api.OpJalr, Rd: 1, Rs1: 1, Imm: 1, Len: 4}, 0x80000010, api.Done{Rd: 1, Val: 0x80000004})
	gives(t, machine(), b, api.Instr{Op: api.OpJal, Imm: 6, Len: 4}, 0x80000006, api.Done{})
	bne := api.Instr{Op: api.OpBne, Rs1: 1, Rs2: 0, Imm: -4, Len: 4}
	gives(t, with(machine(), 1), b, bne, 0x7ffffffc, api.Done{})
	gives(t, with(machine(), 0), b, bne, 0x80000004, api.Done{})
	gives(t, machine(), b, api.Instr{Op: api.OpAuipc, Rd: 2, Imm: -4096, Len: 4}, 0x80000004, api.Done{Rd: 2, Val: 0x7ffff000})
}

func TestExample3OfExec(t *testing.T) {
	b := blank(t)
	b.Store(0x80000000, 1, 0x80)
	c := with(machine(), 0, 0x80000000)
	done := api.Done{Rd: 1, Val: 0xffffffffffffff80, Mem: api.R, Addr: 0x80000000, Size: 1}
	gives(t, c, b, api.Instr{Op: api.OpLb, Rd: 1, Rs1: 2, Len: 4}, 0x80000004, done)
	done.Val = 0x80
	gives(t, c, b, api.Instr{Op: api.OpLbu, Rd: 1, Rs1: 2, Len: 4}, 0x80000004, done)
	stops(t, with(machine(), 0, 0x80000004), b, api.Instr{Op: api.OpLd, Rd: 1, Rs1: 2, Len: 4}, 4, 0x80000004)
	stops(t, machine(), b, api.Instr{Op: api.OpSw, Rs1: 0, Rs2: 1, Len: 4}, 7, 0)
}

func TestExample4OfExec(t *testing.T) {
	b := blank(t)
	c := with(machine(), 0, 0x80000000, 0x12345)
	gives(t, c, b, api.Instr{Op: api.OpSh, Rs1: 2, Rs2: 3, Imm: 2, Len: 4}, 0x80000004, api.Done{Mem: api.W, Addr: 0x80000002, Size: 2, Data: 0x2345})
	there(t, b, 0x80000000, 4, 0x23450000)
}

func TestExample5OfExec(t *testing.T) {
	b := blank(t)
	u := machine()
	u.Mode = api.U
	stops(t, machine(), b, api.Instr{Op: api.OpEcall, Len: 4}, 11, 0)
	stops(t, u, b, api.Instr{Op: api.OpEcall, Len: 4}, 8, 0)
	stops(t, machine(), b, api.Instr{Op: api.OpEbreak, Len: 4}, 3, 0x80000000)
	stops(t, u, b, api.Instr{Op: api.OpMret, Len: 4, Raw: 0x30200073}, 2, 0x30200073)
	for _, in := range []api.Instr{{Op: 0, Len: 4}, {Op: 97, Len: 4}, {Op: api.OpAdd, Rd: 32, Len: 4}, {Op: api.OpAdd, Len: 3}} {
		in.Raw = 7
		stops(t, machine(), b, in, 2, 7)
	}
}

func TestExample6OfExec(t *testing.T) {
	b := blank(t)
	c := machine()
	gives(t, c, b, api.Instr{Op: api.OpCsrrs, Rd: 1, Imm: 0xf13, Len: 4, Raw: 5}, 0x80000004, api.Done{Rd: 1, Val: 1})
	stops(t, c, b, api.Instr{Op: api.OpCsrrw, Imm: 0xf13, Len: 4, Raw: 5}, 2, 5)
	stops(t, c, b, api.Instr{Op: api.OpCsrrs, Rs1: 1, Imm: 0xf13, Len: 4, Raw: 5}, 2, 5)
	stops(t, with(c, 9), b, api.Instr{Op: api.OpCsrrs, Rs1: 1, Imm: 0xf13, Len: 4, Raw: 5}, 2, 5)
	c.Mscratch = 4
	gives(t, c, b, api.Instr{Op: api.OpCsrrwi, Rd: 1, Rs1: 9, Imm: 0x340, Len: 4}, 0x80000004, api.Done{Rd: 1, Val: 4}, func(c *api.Cpu) { c.Mscratch = 9 })
	c.Mstatus = uxl | mie | mpie
	gives(t, c, b, api.Instr{Op: api.OpCsrrci, Rs1: 8, Imm: 0x300, Len: 4}, 0x80000004, api.Done{}, func(c *api.Cpu) { c.Mstatus = uxl | mpie })
	c.X[1], c.Mscratch = 6, 1
	gives(t, c, b, api.Instr{Op: api.OpCsrrs, Rd: 1, Rs1: 1, Imm: 0x340, Len: 4}, 0x80000004, api.Done{Rd: 1, Val: 1}, func(c *api.Cpu) { c.Mscratch = 7 })
}

func TestExample7OfExec(t *testing.T) {
	b := blank(t)
	b.Store(0x80000000, 4, 0xffffffff)
	c := with(machine(), 0, 0x80000000, 0, 5)
	lr := api.Instr{Op: api.OpLrW, Rd: 1, Rs1: 2, Len: 4}
	sc := api.Instr{Op: api.OpScW, Rd: 3, Rs1: 2, Rs2: 4, Len: 4}
	c = gives(t, c, b, lr, 0x80000004, api.Done{Rd: 1, Val: ones, Mem: api.R, Addr: 0x80000000, Size: 4}, func(c *api.Cpu) {
		c.Res = api.Res{Valid: true, Addr: 0x80000000, Size: 4}
	})
	none := func(c *api.Cpu) { c.Res = api.Res{} }
	c = gives(t, c, b, sc, 0x80000008, api.Done{Rd: 3, Val: 0, Mem: api.W, Addr: 0x80000000, Size: 4, Data: 5}, none)
	there(t, b, 0x80000000, 4, 5)
	gives(t, c, b, sc, 0x8000000c, api.Done{Rd: 3, Val: 1}, none)
}

func TestExample8OfExec(t *testing.T) {
	for _, rd := range []int{1, 2} {
		b := blank(t)
		b.Store(0x80000000, 4, 0x7fffffff)
		c := with(machine(), 0, 0x80000000, 0, 1)
		in := api.Instr{Op: api.OpAmoaddW, Rd: rd, Rs1: 2, Rs2: 4, Len: 4}
		gives(t, c, b, in, 0x80000004, api.Done{Rd: rd, Val: 0x7fffffff, Mem: api.R | api.W, Addr: 0x80000000, Size: 4, Data: 0x80000000})
		there(t, b, 0x80000000, 4, 0x80000000)
	}
}

func TestExample9OfExec(t *testing.T) {
	b := blank(t)
	gives(t, machine(), b, api.Instr{Op: api.OpWfi, Len: 4}, 0x80000004, api.Done{}, func(c *api.Cpu) { c.Waiting = true })
	c := with(machine(), 0x100000, 0x5555)
	gives(t, c, b, api.Instr{Op: api.OpSw, Rs1: 1, Rs2: 2, Len: 4}, 0x80000004, api.Done{Mem: api.W, Addr: 0x100000, Size: 4, Data: 0x5555})
	if off, code := b.Off(); off != api.Passed || code != 0 {
		t.Errorf("the power is %d, %d", off, code)
	}
}
