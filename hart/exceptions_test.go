package hart_test

import (
	"slices"
	"testing"

	"anvil/api"
)

// stops does a step that takes an exception, and holds its row, the Cpu, and that the bus has what the world brought and no more. (H7)
func stops(t *testing.T, name string, c api.Cpu, s api.Bus, in api.Instr, cause, tval uint64) {
	t.Helper()
	w := api.World{Tick: true, Ext: true, Input: []byte("k")}
	b := of(t, s)
	d := gives(t, c, b, w, fetched(trapped(c, api.RowException, cause, tval, c.Mtvec), in))
	if d.Mepc != c.Pc || d.Mcause != cause || d.Mtval != tval || d.X != c.X || d.Minstret != c.Minstret {
		t.Errorf("%s: the Cpu is\n%+v, was\n%+v", name, d, c)
	}
	s.Mtime, s.Ext, s.Soft, s.Input = s.Mtime+1, true, false, append(slices.Clone(s.Input), 'k')
	sameBus(t, name, s, b.State())
}

// refuses does so with an instruction at the beginning of RAM.
func refuses(t *testing.T, c api.Cpu, text string, cause, tval uint64) {
	t.Helper()
	stops(t, text, c, saying(t, rich(little), text), says(t, text), cause, tval)
}

// TestH3Unknown: bits that decode does not know: cause 2, tval the parcel or the four bytes.
func TestH3Unknown(t *testing.T) {
	for _, c := range both() {
		c = full(c)
		for _, raw := range []uint32{0, 0x8002, 0x6101, 0x2000, 0xa002, 0x9c41, 0x4002} {
			in := api.Instr{Raw: raw, Len: 2}
			stops(t, "a parcel", c, holding(rich(little), 0, raw, 2), in, 2, uint64(raw))
			stops(t, "a parcel at the end", at(c, ram+little-2), holding(rich(little), little-2, raw, 2), in, 2, uint64(raw))
		}
		for _, raw := range []uint32{0xffffffff, 0x0000007f, 0x10200073, 0x12000073, 0x43f5551b, 0x1015a52f, 0x0ff0f08f, 0x00007003, 0x00000077} {
			in := api.Instr{Raw: raw, Len: 4}
			stops(t, "a word", c, holding(rich(little), 0, raw, 4), in, 2, uint64(raw))
			stops(t, "a word at an odd parcel", at(c, ram+6), holding(rich(little), 6, raw, 4), in, 2, uint64(raw))
		}
	}
}

// TestH3Upper: of a parcel the bytes behind it are not told.
func TestH3Upper(t *testing.T) {
	c := full(machine())
	stops(t, "the zero parcel", c, holding(rich(little), 0, 0xabcd0000, 4), api.Instr{Len: 2}, 2, 0)
	want := fetched(row(c, api.RowRetire), api.Instr{Raw: 0x4501, Len: 2})
	want.Rd, want.Next = 10, ram+2
	gives(t, c, of(t, holding(quiet(little), 0, 0xabcd4501, 4)), api.World{}, want)
}

// TestH3Fetch: a fetch that fails at its first or its second parcel: cause 1, tval that parcel's address, Raw and Len 0.
func TestH3Fetch(t *testing.T) {
	long := func(place int) api.Bus { return holding(rich(little), place, 0x00000013, 2) }
	for _, pc := range []uint64{0, ram - 2, ram + little, console, msip, ones - 1} {
		for _, c := range both() {
			stops(t, "no RAM", at(full(c), pc), rich(little), api.Instr{}, 1, pc)
		}
	}
	for _, c := range both() {
		stops(t, "the end of RAM", at(full(c), ram+little-2), long(little-2), api.Instr{}, 1, ram+little)
	}
	stops(t, "no X", full(user(3)), rich(little), api.Instr{}, 1, ram)
	u := full(user(0))
	u.Pmp.Cfg[0], u.Pmp.Addr[0] = 0x14, ram/4 // NA4, X
	stops(t, "X of the first parcel alone", at(u, ram+2), holding(rich(little), 2, 0x00100093, 4), api.Instr{}, 1, ram+4)
	stops(t, "X of the parcel ahead", at(u, ram+4), long(4), api.Instr{}, 1, ram+4)
	m := full(machine())
	m.Pmp.Cfg[0], m.Pmp.Addr[0] = 0x93, ram/4 // NA4, locked, R and W
	stops(t, "M without X by a lock", m, long(0), api.Instr{}, 1, ram)
	stops(t, "M without X by a lock, second parcel", at(m, ram-2), long(0), api.Instr{}, 1, ram-2)
}

// TestH3System: the exceptions of ecall, ebreak and of what a mode may not do.
func TestH3System(t *testing.T) {
	m, u := full(machine()), full(user(7))
	refuses(t, m, "ecall", 11, 0)
	refuses(t, u, "ecall", 8, 0)
	for _, c := range []api.Cpu{m, u} {
		refuses(t, c, "ebreak", 3, ram)
		refuses(t, c, "c.ebreak", 3, ram)
		for _, text := range []string{"csrrs x1, 0x100, x0", "csrrw x1, mhartid, x0", "csrrs x1, cycle, x1", "csrrsi x1, instret, 1"} {
			refuses(t, c, text, 2, uint64(says(t, text).Raw))
		}
	}
	for _, text := range []string{"mret", "csrrs x1, mstatus, x0", "csrrw x0, mcycle, x1", "csrrwi x0, minstret, 3", "csrrs x1, time, x0", "csrrs x1, hpmcounter3, x0"} {
		refuses(t, u, text, 2, uint64(says(t, text).Raw))
	}
	u.Mstatus |= tw
	refuses(t, u, "wfi", 2, 0x10500073)
}

// TestH3Memory: the exceptions of every load, store and atomic: misaligned, forbidden, nothing there.
func TestH3Memory(t *testing.T) {
	loads := []string{"lb x1, 0(x2)", "lh x1, 0(x2)", "lw x1, 0(x2)", "ld x1, 0(x2)", "lbu x1, 0(x2)", "lhu x1, 0(x2)", "lwu x1, 0(x2)", "lr.w x1, (x2)", "lr.d x1, (x2)"}
	stores := []string{"sb x1, 0(x2)", "sh x1, 0(x2)", "sw x1, 0(x2)", "sd x1, 0(x2)", "sc.w x1, x3, (x2)", "sc.d x1, x3, (x2)"}
	for _, name := range []string{"swap", "add", "xor", "and", "or", "min", "max", "minu", "maxu"} {
		stores = append(stores, "amo"+name+".w x1, x3, (x2)", "amo"+name+".d x1, x3, (x2)")
	}
	for i, texts := range [][]string{loads, stores} {
		misaligned, fault := uint64(4+2*i), uint64(5+2*i)
		for _, text := range texts {
			bytes := text[:2] == "lb" || text[:2] == "sb"
			for _, c := range both() {
				c = full(c)
				if c.X[2] = ram + 33; !bytes {
					refuses(t, c, text, misaligned, ram+33)
				}
				c.X[2] = ram + little
				refuses(t, c, text, fault, ram+little)
				c.X[2] = 0
				refuses(t, c, text, fault, 0)
			}
			u := full(user(4))
			u.X[2] = ram + 56
			refuses(t, u, text, fault, ram+56)
			u.Mode, u.Mstatus = api.M, uxl|mprv
			refuses(t, u, text, fault, ram+56)
		}
	}
}

// TestH3Devices: atomics find no device, and what is refused changes none.
func TestH3Devices(t *testing.T) {
	for _, c := range both() {
		c = full(c)
		for _, addr := range []uint64{msip, finisher, console, mtimecmp, mtime} {
			c.X[2], c.X[3] = addr, 0x5555
			c.Res = api.Res{Valid: true, Addr: addr, Size: 4}
			refuses(t, c, "lr.w x1, (x2)", 5, addr)
			refuses(t, c, "sc.w x1, x3, (x2)", 7, addr)
			refuses(t, c, "amoswap.w x1, x3, (x2)", 7, addr)
		}
		c.X[2], c.X[3] = console, 0x5555
		refuses(t, c, "lw x1, 0(x2)", 5, console)
		refuses(t, c, "sd x3, 0(x2)", 7, console)
	}
}

// TestH7Status: what an exception does to Mstatus, in both modes, with MIE clear and set, with MPRV and TW; an exception goes to Mtvec's base, its bit 0 set or not.
func TestH7Status(t *testing.T) {
	for _, c := range both() {
		for _, one := range []struct{ was, m, u uint64 }{
			{0, mpp, 0},
			{mie, mpie | mpp, mpie},
			{mpie, mpp, 0},
			{mie | mpie | mpp | tw, mpie | mpp | tw, mpie | tw},
			{mprv | mpp, mprv | mpp, mprv},
		} {
			for _, c.Mtvec = range []uint64{0x4000, 0x4001} {
				c.Mstatus = uxl | one.was
				want := one.m
				cause := uint64(11)
				if c.Mode == api.U {
					want, cause = one.u, 8
				}
				r := fetched(trapped(c, api.RowException, cause, 0, 0x4000), says(t, "ecall"))
				gives(t, c, program(t, "ecall"), api.World{}, r, func(c *api.Cpu) { c.Mstatus = uxl | want })
			}
		}
	}
}
