package exec_test

import (
	"testing"

	"anvil/api"
	"anvil/bus"
)

// TestP12_3Loads: every load of bytes whose top bit is set, by a positive and a negative immediate, to x0, to another register and to its own.
func TestP12_3Loads(t *testing.T) {
	b := of(t, rich(little))
	for _, one := range []struct {
		op, size int
		want     uint64
	}{
		{api.OpLb, 1, 0xffffffffffffff88}, {api.OpLh, 2, 0xffffffffffff8988}, {api.OpLw, 4, 0xffffffff8b8a8988},
		{api.OpLd, 8, 0x8f8e8d8c8b8a8988},
		{api.OpLbu, 1, 0x88}, {api.OpLhu, 2, 0x8988}, {api.OpLwu, 4, 0x8b8a8988},
	} {
		for _, imm := range []int64{0, 24, -16} {
			c := with(machine(), ram+8-uint64(imm), ones)
			in := api.Instr{Op: one.op, Rs1: 1, Rs2: 2, Imm: imm, Len: 4}
			gives(t, c, b, in, ram+4, api.Done{Mem: api.R, Addr: ram + 8, Size: one.size})
			for _, in.Rd = range []int{1, 2, 31} {
				gives(t, c, b, in, ram+4, api.Done{Rd: in.Rd, Val: one.want, Mem: api.R, Addr: ram + 8, Size: one.size})
			}
		}
	}
	if !sameState(rich(little), b.State()) {
		t.Errorf("behind loads the bus is\n%+v", b.State())
	}
}

// TestP12_3LoadsPlain: with the top bit clear there is no sign to extend, whatever stands above.
func TestP12_3LoadsPlain(t *testing.T) {
	b := blank(t)
	b.Store(ram, 8, 0xff7fff7fff7fff7f)
	for op, want := range map[int]uint64{
		api.OpLb: 0x7f, api.OpLbu: 0x7f, api.OpLh: 0xffffffffffffff7f, api.OpLhu: 0xff7f, api.OpLw: 0xffffffffff7fff7f,
	} {
		in := api.Instr{Op: op, Rd: 3, Rs1: 1, Len: 2}
		gives(t, with(machine(), ram), b, in, ram+2, api.Done{Rd: 3, Val: want, Mem: api.R, Addr: ram, Size: sizeOf(op)})
	}
	b.Store(ram+8, 8, 0xffffffff7fffffff)
	for _, op := range []int{api.OpLw, api.OpLwu, api.OpLrW, api.OpAmoorW} {
		in := api.Instr{Op: op, Rd: 3, Rs1: 1, Len: 2}
		if got := do(with(machine(), ram+8), b, in); got.done.Val != 0x7fffffff || got.cpu.X[3] != 0x7fffffff {
			t.Errorf("%+v: %+v", in, got)
		}
	}
}

// TestP12_3LoadDevice: a load from the console takes the byte away, also with Rd 0; a load leaves the reservation.
func TestP12_3LoadDevice(t *testing.T) {
	b := of(t, rich(little))
	c := holding(with(machine(), console), console, 4)
	gives(t, c, b, api.Instr{Op: api.OpLb, Rd: 2, Rs1: 1, Len: 4}, ram+4, api.Done{Rd: 2, Val: 0xffffffffffffffe9, Mem: api.R, Addr: console, Size: 1})
	gives(t, c, b, api.Instr{Op: api.OpLbu, Rs1: 1, Len: 4}, ram+4, api.Done{Mem: api.R, Addr: console, Size: 1})
	if left := string(b.State().Input); left != "put" {
		t.Errorf("the console's input is %q behind two loads", left)
	}
	c.X[1] = mtime
	gives(t, c, b, api.Instr{Op: api.OpLw, Rd: 2, Rs1: 1, Imm: 4, Len: 4}, ram+4, api.Done{Rd: 2, Val: 0xffffffff81234567, Mem: api.R, Addr: mtime + 4, Size: 4})
}

// TestP12_3Stores: every store: its lower bytes and no other, and they are told.
func TestP12_3Stores(t *testing.T) {
	const v = 0x1122334455667788
	for _, one := range []struct {
		op, size int
		data     uint64
	}{{api.OpSb, 1, 0x88}, {api.OpSh, 2, 0x7788}, {api.OpSw, 4, 0x55667788}, {api.OpSd, 8, v}} {
		for _, imm := range []int64{0, 8, -24} {
			b := of(t, rich(little))
			c := with(machine(), ram+8-uint64(imm), v)
			// A store has no Rd: what the record says there does not count.
			in := api.Instr{Op: one.op, Rd: 3, Rs1: 1, Rs2: 2, Imm: imm, Len: 2}
			gives(t, c, b, in, ram+2, api.Done{Mem: api.W, Addr: ram + 8, Size: one.size, Data: one.data})
			want := rich(little)
			for i := range one.size {
				want.Ram[8+i] = byte(one.data >> (8 * i))
			}
			if !sameState(want, b.State()) {
				t.Errorf("behind %+v the bus is\n%+v", in, b.State())
			}
		}
	}
}

// TestP12_3StoreRes: a store that meets the reservation ends it, one beside it leaves it.
func TestP12_3StoreRes(t *testing.T) {
	b := of(t, rich(little))
	c := holding(with(machine(), ram), ram+8, 8)
	none := func(c *api.Cpu) { c.Res = api.Res{} }
	for imm := range int64(24) {
		in := api.Instr{Op: api.OpSb, Rs1: 1, Imm: imm, Len: 4}
		done := api.Done{Mem: api.W, Addr: ram + uint64(imm), Size: 1}
		if imm >= 8 && imm < 16 {
			gives(t, c, b, in, ram+4, done, none)
		} else {
			gives(t, c, b, in, ram+4, done)
		}
	}
}

// TestP12_3StoreDevice: stores to devices, the power's among them.
func TestP12_3StoreDevice(t *testing.T) {
	b := of(t, rich(little))
	c := with(machine(), console, 0x1263, mtimecmp, finisher, 0xabcd3333)
	gives(t, c, b, api.Instr{Op: api.OpSb, Rs1: 1, Rs2: 2, Len: 4}, ram+4, api.Done{Mem: api.W, Addr: console, Size: 1, Data: 0x63})
	gives(t, c, b, api.Instr{Op: api.OpSd, Rs1: 3, Rs2: 2, Len: 4}, ram+4, api.Done{Mem: api.W, Addr: mtimecmp, Size: 8, Data: 0x1263})
	gives(t, c, b, api.Instr{Op: api.OpSw, Rs1: 4, Rs2: 5, Len: 4}, ram+4, api.Done{Mem: api.W, Addr: finisher, Size: 4, Data: 0xabcd3333})
	want := rich(little)
	want.Output, want.Mtimecmp, want.Off, want.Code = []byte("outc"), 0x1263, api.Failed, 0xabcd
	if !sameState(want, b.State()) {
		t.Errorf("the bus is\n%+v, want\n%+v", b.State(), want)
	}
}

// causesOf is the causes by alignment and by protection or the bus.
func causesOf(op int) (uint64, uint64) {
	if name := familyOf(op); name == "load" || name == "lr" {
		return 4, 5
	}
	return 6, 7
}

// TestP12_1Alignment: every access that is not aligned, with an Rd, over what it could change.
func TestP12_1Alignment(t *testing.T) {
	b := of(t, rich(little))
	for _, op := range opsOf("load", "store", "lr", "sc", "amo") {
		cause, _ := causesOf(op)
		for off := range uint64(sizeOf(op)) {
			where := uint64(ram + 8 + off)
			if off == 0 {
				continue
			}
			for _, c := range []api.Cpu{machine(), user(0), user(7), borrowed(user(7))} {
				c = holding(with(c, where, 0x5555), ram+8, 8)
				for _, rd := range []int{0, 1, 2, 3} {
					stops(t, c, b, api.Instr{Op: op, Rd: rd, Rs1: 1, Rs2: 2, Len: 4, Raw: 9}, cause, where)
				}
			}
		}
	}
}

// TestP12_1Protection: every access that protection forbids: of U, of M as U, and of M by a locked entry.
func TestP12_1Protection(t *testing.T) {
	b := of(t, rich(little))
	for _, op := range opsOf("load", "store", "lr", "sc", "amo") {
		_, cause := causesOf(op)
		var forbidden []uint8
		for bits := range uint8(8) {
			needs := map[string]uint8{"load": 1, "lr": 1, "store": 2, "sc": 2, "amo": 3}[familyOf(op)]
			if bits&3 == 2 { // W without R is made to neither
				bits &^= 3
			}
			if bits&needs != needs {
				forbidden = append(forbidden, bits)
			}
		}
		for _, where := range []uint64{ram + 8, mtimecmp, console} {
			if sizeOf(op) != 1 && where == console {
				continue
			}
			for _, bits := range forbidden {
				locked := user(0x80 | bits)
				locked.Mode = api.M
				for _, c := range []api.Cpu{user(bits), borrowed(user(bits)), locked, {Pc: ram}} {
					c = holding(with(c, where, 0x5555), ram+8, max(sizeOf(op), 4))
					stops(t, c, b, api.Instr{Op: op, Rd: 2, Rs1: 1, Rs2: 2, Len: 2, Raw: 9}, cause, where)
				}
			}
		}
	}
}

// TestP12_1Bus: every access where nothing is for it: before and behind RAM, at the ends, and at devices of another size; of the atomics at devices too.
func TestP12_1Bus(t *testing.T) {
	b := of(t, rich(little))
	for _, op := range opsOf("load", "store", "lr", "sc", "amo") {
		_, cause := causesOf(op)
		size := uint64(sizeOf(op))
		places := []uint64{0, ram - size, ram + little, ones - size + 1, 1<<63 + ram, 1<<32 + ram}
		if size == 1 || size == 2 {
			places = append(places, finisher, msip, mtimecmp, mtime)
		}
		if size != 1 {
			places = append(places, console)
		}
		if name := familyOf(op); name == "lr" || name == "sc" || name == "amo" {
			places = append(places, finisher, msip, mtimecmp, mtime)
		}
		for _, where := range places {
			for _, c := range []api.Cpu{machine(), user(7), borrowed(user(7))} {
				c = holding(with(c, where, 0x5555), where, max(int(size), 4))
				stops(t, c, b, api.Instr{Op: op, Rd: 1, Rs1: 1, Rs2: 2, Len: 4, Raw: 9}, cause, where)
			}
		}
	}
}

// TestP12_1Immediate: the address that a trap tells is that of the sum, which wraps; atomics have no immediate.
func TestP12_1Immediate(t *testing.T) {
	b := of(t, rich(little))
	c := with(machine(), ones, ram+8)
	stops(t, c, b, api.Instr{Op: api.OpLd, Rd: 1, Rs1: 1, Imm: 2, Len: 4}, 4, 1)
	stops(t, c, b, api.Instr{Op: api.OpSw, Rs1: 1, Imm: 5, Len: 4}, 7, 4)
	stops(t, c, b, api.Instr{Op: api.OpLb, Rs1: 0, Imm: -1, Len: 4}, 5, ones)
	c.X[1] = 1<<63 + ram
	gives(t, c, b, api.Instr{Op: api.OpLbu, Rd: 3, Rs1: 1, Imm: -1 << 63, Len: 4}, ram+4, api.Done{Rd: 3, Val: 0x80, Mem: api.R, Addr: ram, Size: 1})
	for _, op := range opsOf("lr", "sc", "amo") {
		if got := do(c, of(t, rich(little)), api.Instr{Op: op, Rs1: 2, Imm: 3, Len: 4}).done; got.Trap.Is {
			t.Errorf("operation %d with an immediate: %+v", op, got)
		}
	}
}

// TestP12_3Modes: an access is done where protection grants it: of U, of M as U, and of M whatever an open entry says.
func TestP12_3Modes(t *testing.T) {
	open := user(0)
	open.Mode = api.M
	for _, op := range opsOf("load", "store", "lr", "sc", "amo") {
		for _, c := range []api.Cpu{user(3), user(7), borrowed(user(3)), open, user(0x83)} {
			got := do(with(c, ram+8, 5), of(t, rich(little)), api.Instr{Op: op, Rd: 3, Rs1: 1, Rs2: 2, Len: 4})
			if got.done.Trap.Is || got.cpu.Pc != ram+4 || got.cpu.Mode != c.Mode || got.cpu.Mstatus != c.Mstatus {
				t.Errorf("operation %d in mode %d, entry %#x: %+v", op, c.Mode, c.Pmp.Cfg[0], got.done)
			}
		}
	}
	for _, op := range opsOf("load", "lr") {
		if got := do(with(user(1), ram+8), of(t, rich(little)), api.Instr{Op: op, Rd: 3, Rs1: 1, Len: 4}); got.done.Trap.Is {
			t.Errorf("operation %d with R alone: %+v", op, got.done)
		}
	}
}

// TestP12_3Reserve: LR of both sizes, with the sign of four bytes extended; to its own register too.
func TestP12_3Reserve(t *testing.T) {
	b := of(t, rich(little))
	for _, one := range []struct {
		op, size int
		want     uint64
	}{{api.OpLrW, 4, 0xffffffff8b8a8988}, {api.OpLrD, 8, 0x8f8e8d8c8b8a8988}} {
		res := func(c *api.Cpu) { c.Res = api.Res{Valid: true, Addr: ram + 8, Size: one.size} }
		for _, c := range []api.Cpu{machine(), user(1), holding(machine(), ram+16, 4), holding(machine(), ram+8, 12-one.size)} {
			c = with(c, ram+8, ones)
			in := api.Instr{Op: one.op, Rs1: 1, Rs2: 2, Imm: 8, Aq: true, Len: 4}
			gives(t, c, b, in, ram+4, api.Done{Mem: api.R, Addr: ram + 8, Size: one.size}, res)
			for _, in.Rd = range []int{1, 2, 3} {
				gives(t, c, b, in, ram+4, api.Done{Rd: in.Rd, Val: one.want, Mem: api.R, Addr: ram + 8, Size: one.size}, res)
			}
		}
	}
	if !sameState(rich(little), b.State()) {
		t.Errorf("behind loads reserved the bus is\n%+v", b.State())
	}
}

// TestP12_3Conditional: SC that stores, and SC that does not: without a reservation, of another address, of another size; behind both there is none.
func TestP12_3Conditional(t *testing.T) {
	const v = 0xfedcba9876543210
	none := func(c *api.Cpu) { c.Res = api.Res{} }
	for _, op := range []int{api.OpScW, api.OpScD} {
		size := sizeOf(op)
		for _, rd := range []int{0, 1, 2, 3} {
			in := api.Instr{Op: op, Rd: rd, Rs1: 1, Rs2: 2, Rl: true, Len: 4}
			b := of(t, rich(little))
			for _, c := range []api.Cpu{machine(), holding(machine(), ram+16, size), holding(machine(), ram+8, 12-size), holding(machine(), ram, size)} {
				done := api.Done{Rd: rd, Val: 1}
				if rd == 0 {
					done = api.Done{}
				}
				gives(t, with(c, ram+8, v), b, in, ram+4, done, none)
			}
			if !sameState(rich(little), b.State()) {
				t.Errorf("%+v has not stored, and the bus is\n%+v", in, b.State())
			}
			c := with(holding(machine(), ram+8, size), ram+8, v)
			gives(t, c, b, in, ram+4, api.Done{Rd: rd, Mem: api.W, Addr: ram + 8, Size: size, Data: low(v, size)}, none)
			there(t, b, ram+8, size, low(v, size))
			there(t, b, ram+16, 8, 0x9796959493929190)
			there(t, b, ram, 8, 0x8786858483828180)
			if high, _ := b.Load(ram+12, 4); size == 4 && high != 0x8f8e8d8c {
				t.Errorf("behind %+v the bytes beside are %#x", in, high)
			}
		}
	}
}

// TestP12_3Amo: every AMO, what it stores written out; to x0, to the register of its address, to that of its number, and to another.
func TestP12_3Amo(t *testing.T) {
	const old, v = 0x80000007f0000019, 0x123456781abcdef9
	for _, one := range []result{
		{api.OpAmoswapW, 0x1abcdef9}, {api.OpAmoaddW, 0xabcdf12}, {api.OpAmoxorW, 0xeabcdee0},
		{api.OpAmoandW, 0x10000019}, {api.OpAmoorW, 0xfabcdef9},
		{api.OpAmominW, 0xf0000019}, {api.OpAmomaxW, 0x1abcdef9}, {api.OpAmominuW, 0x1abcdef9}, {api.OpAmomaxuW, 0xf0000019},
		{api.OpAmoswapD, 0x123456781abcdef9}, {api.OpAmoaddD, 0x923456800abcdf12}, {api.OpAmoxorD, 0x9234567feabcdee0},
		{api.OpAmoandD, 0x10000019}, {api.OpAmoorD, 0x9234567ffabcdef9},
		{api.OpAmominD, 0x80000007f0000019}, {api.OpAmomaxD, 0x123456781abcdef9},
		{api.OpAmominuD, 0x123456781abcdef9}, {api.OpAmomaxuD, 0x80000007f0000019},
	} {
		size := sizeOf(one.op)
		for _, rd := range []int{0, 1, 2, 3} {
			b := of(t, rich(little))
			b.Store(ram+8, 8, old)
			in := api.Instr{Op: one.op, Rd: rd, Rs1: 1, Rs2: 2, Imm: 4, Aq: true, Rl: true, Len: 4}
			done := api.Done{Rd: rd, Val: signed(old, size), Mem: 3, Addr: ram + 8, Size: size, Data: one.want}
			if rd == 0 {
				done.Val = 0
			}
			gives(t, with(machine(), ram+8, v), b, in, ram+4, done)
			whole := one.want
			if size == 4 {
				whole += old >> 32 << 32
			}
			there(t, b, ram+8, 8, whole)
		}
	}
}

// TestP12_3AmoRes: an AMO that meets the reservation ends it, also one that changes no byte; one beside it leaves it.
func TestP12_3AmoRes(t *testing.T) {
	none := func(c *api.Cpu) { c.Res = api.Res{} }
	b := of(t, rich(little))
	in := api.Instr{Op: api.OpAmoorW, Rs1: 1, Len: 4}
	done := api.Done{Mem: 3, Addr: ram + 12, Size: 4, Data: 0x8f8e8d8c}
	gives(t, holding(with(machine(), ram+12), ram+8, 8), b, in, ram+4, done, none)
	gives(t, holding(with(machine(), ram+12), ram+8, 4), b, in, ram+4, done)
	gives(t, holding(with(machine(), ram+12), ram+16, 8), b, in, ram+4, done)
}

// TestP12_3Sequence: LR, SC and once more SC on one bus; a store in between ends it.
func TestP12_3Sequence(t *testing.T) {
	b := of(t, rich(little))
	c := with(machine(), ram+16, 7)
	lr := api.Instr{Op: api.OpLrD, Rd: 4, Rs1: 1, Len: 4}
	sc := api.Instr{Op: api.OpScD, Rd: 3, Rs1: 1, Rs2: 2, Len: 4}
	for _, one := range []struct {
		between []api.Instr
		want    uint64
	}{
		{nil, 0},
		{[]api.Instr{{Op: api.OpSb, Rs1: 1, Imm: 7, Len: 4}}, 1},
		{[]api.Instr{{Op: api.OpSb, Rs1: 1, Imm: 8, Len: 4}}, 0},
		{[]api.Instr{{Op: api.OpSb, Rs1: 0, Len: 4}}, 0}, // traps: nothing has happened
		{[]api.Instr{{Op: api.OpLd, Rs1: 1, Len: 4}, {Op: api.OpFence, Len: 4}, {Op: api.OpWfi, Len: 4}}, 0},
		{[]api.Instr{{Op: api.OpLrD, Rs1: 1, Imm: 0, Len: 4}}, 0},
		{[]api.Instr{{Op: api.OpLrW, Rs1: 1, Len: 4}}, 1},
		{[]api.Instr{{Op: api.OpAmoorD, Rs1: 1, Len: 4}}, 1},
		{[]api.Instr{{Op: api.OpScW, Rs1: 1, Len: 4}}, 1},
		{[]api.Instr{{Op: api.OpMret, Len: 4}}, 1},
	} {
		d := runAll(c, b, append([]api.Instr{lr}, one.between...))
		d.Mode = api.M
		d = runAll(d, b, []api.Instr{sc})
		if d.X[3] != one.want {
			t.Errorf("with %+v in between SC answers %d, want %d", one.between, d.X[3], one.want)
		}
		if d = runAll(d, b, []api.Instr{sc}); d.X[3] != 1 {
			t.Errorf("with %+v in between a second SC answers %d", one.between, d.X[3])
		}
	}
}

func runAll(c api.Cpu, b *bus.Bus, ins []api.Instr) api.Cpu {
	for _, in := range ins {
		c = do(c, b, in).cpu
	}
	return c
}
