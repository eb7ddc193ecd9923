package hart_test

import (
	"math/rand/v2"

	"anvil/api"
	"anvil/decode"
	"anvil/encode"
)

// random is a source that gives the same numbers each time.
func random(seed uint64) *rand.Rand { return rand.New(rand.NewPCG(seed, 13)) }

// words is the numbers of 64 bits that a Cpu has.
func words(c *api.Cpu) []*uint64 {
	all := []*uint64{
		&c.Pc, &c.Mstatus, &c.Mtvec, &c.Mie, &c.Mcounteren, &c.Mcountinhibit, &c.Menvcfg,
		&c.Mscratch, &c.Mepc, &c.Mcause, &c.Mtval, &c.Mcycle, &c.Minstret,
	}
	for i := range c.X {
		all = append(all, &c.X[i])
	}
	for i := range c.Pmp.Addr {
		all = append(all, &c.Pmp.Addr[i])
	}
	return all
}

// somewhere is an address, mostly of RAM or a device, mostly aligned.
func somewhere(r *rand.Rand) uint64 {
	switch r.IntN(10) {
	case 0:
		return r.Uint64() >> r.IntN(64)
	case 1, 2:
		return [...]uint64{finisher, msip, mtimecmp, mtimecmp + 4, mtime, mtime + 4, console, console + uint64(r.IntN(8))}[r.IntN(8)]
	}
	addr := ram + uint64(r.IntN(little+4))
	if r.IntN(4) > 0 {
		addr &^= 7
	}
	return addr
}

// anyCpu is a Cpu of any bits, those that cannot be too; its registers are mostly addresses, its Pc mostly in RAM.
func anyCpu(r *rand.Rand) api.Cpu {
	c := api.Cpu{Mode: [...]int{api.M, api.M, api.M, api.U, api.U, 1, 2, -1}[r.IntN(8)], Waiting: r.IntN(4) == 0}
	for _, w := range words(&c) {
		*w = r.Uint64()
	}
	for i := range c.X {
		if r.IntN(3) > 0 {
			c.X[i] = somewhere(r)
		}
	}
	if c.Pc = ram + uint64(r.IntN(little-3)); r.IntN(12) == 0 {
		c.Pc = somewhere(r)
	}
	if r.IntN(2) == 0 {
		c.Mtvec = ram + uint64(r.IntN(little))
	}
	if r.IntN(2) == 0 {
		c.Mie = 0
	}
	if r.IntN(2) == 0 {
		c.Mcountinhibit = 0
	}
	return anyRes(r, anyEntries(r, c))
}

// anyEntries is a Cpu with entries of protection: some that cut RAM, and mostly one over all behind them.
func anyEntries(r *rand.Rand, c api.Cpu) api.Cpu {
	for range r.IntN(3) {
		c.Pmp.Cfg[r.IntN(8)], c.Pmp.Addr[r.IntN(8)] = uint8(r.Uint32()), somewhere(r)/4
	}
	if r.IntN(5) > 0 {
		c.Pmp.Cfg[8], c.Pmp.Addr[8] = 0x18|uint8(r.IntN(8)|r.IntN(8)), ones
	}
	return c
}

func anyRes(r *rand.Rand, c api.Cpu) api.Cpu {
	if width := 4 << r.IntN(2); r.IntN(3) > 0 {
		c.Res = api.Res{Valid: r.IntN(8) > 0, Addr: c.X[r.IntN(8)] &^ uint64(width-1), Size: width}
	} else if r.IntN(3) == 0 {
		c.Res = api.Res{Valid: true, Addr: somewhere(r), Size: r.IntN(10)}
	}
	return c
}

// anyOf is the bits of an instruction of this operation, whose registers are mostly x0 to x7 and whose number is mostly small.
func anyOf(r *rand.Rand, op int) uint32 {
	bare, _ := encode.Encode(api.Instr{Op: op})
	if op >= api.OpCsrrw && op <= api.OpCsrrci {
		mask := uint32(0x38380)
		if r.IntN(3) == 0 {
			mask = 0x380
		}
		return bare | csrs()[r.IntN(len(csrs()))]<<20 | r.Uint32()&mask
	}
	mask := uint32(0x738380)
	if r.IntN(6) == 0 {
		mask = 0xffffff80
	}
	for range 8 {
		if raw := bare | r.Uint32()&mask; decode.Decode(raw).Op == op {
			return raw
		}
	}
	return bare
}

// csrs is numbers of CSRs: of every kind that there is, and some that are none.
func csrs() []uint32 {
	return []uint32{
		0xf11, 0xf12, 0xf13, 0xf14, 0xf15, 0x300, 0x301, 0x304, 0x305, 0x306, 0x30a, 0x320, 0x323, 0x33f,
		0x340, 0x341, 0x342, 0x343, 0x344, 0x3a0, 0x3a2, 0x3b0, 0x3b2, 0x3bf, 0xb00, 0xb02, 0xb03, 0xb1f,
		0xc00, 0xc01, 0xc02, 0xc03, 0xc1f, 0x3a1, 0x100, 0x7a0, 0xb01, 0xfff, 0, 0xb00, 0xb02, 0x320,
	}
}

// anyCode is the bits of something that stands at Pc, mostly an instruction, of any operation, short where it can be, every other time.
func anyCode(r *rand.Rand) uint32 {
	switch r.IntN(16) {
	case 0:
		return r.Uint32()
	case 1:
		return r.Uint32() | 3
	case 2:
		return [...]uint32{0, 0xffffffff, 0x10200073, 0x12000073, 0x30200073, 0x8002, 0x9002}[r.IntN(7)]
	}
	raw := anyOf(r, 1+r.IntN(api.Ops-1))
	if p, is := encode.Compress(decode.Decode(raw)); is && r.IntN(2) == 0 {
		return uint32(p)
	}
	return raw
}

// anyState is a state of a bus of any kind: off rarely, its lines up and down.
func anyState(r *rand.Rand) api.Bus {
	s := rich(little)
	for i := range s.Ram {
		if r.IntN(2) == 0 {
			s.Ram[i] = byte(r.Uint32())
		}
	}
	s.Msip, s.Ier, s.Overrun = uint32(r.IntN(4)/3), uint8(r.IntN(16)), r.IntN(2) == 0
	s.Ext, s.Soft = r.IntN(2) == 0, r.IntN(2) == 0
	s.Mtime = r.Uint64()
	if s.Mtimecmp = ones; r.IntN(2) == 0 {
		s.Mtimecmp = s.Mtime + uint64(r.IntN(4)) - 1
	}
	s.Input = make([]byte, [...]int{0, 0, 1, 2, 62, 63, 64}[r.IntN(7)])
	for i := range s.Input {
		s.Input[i] = byte(r.Uint32())
	}
	if s.Off = r.IntN(30); s.Off > 2 {
		s.Off = 0
	}
	if s.Off == api.Failed {
		s.Code = r.IntN(65536)
	}
	return s
}

func anyWorld(r *rand.Rand) api.World {
	w := api.World{Tick: r.IntN(2) == 0, Ext: r.IntN(6) == 0, Soft: r.IntN(6) == 0}
	w.Input = make([]byte, [...]int{0, 0, 0, 0, 1, 2, 3, 70}[r.IntN(8)])
	for i := range w.Input {
		w.Input[i] = byte(r.Uint32())
	}
	return w
}

// put is a state with four bytes at an address, as far as they are RAM.
func put(s api.Bus, addr uint64, raw uint32) api.Bus {
	for i := range uint64(4) {
		if place := addr + i - ram; place < uint64(len(s.Ram)) {
			s.Ram[place] = byte(raw >> (8 * i))
		}
	}
	return s
}

// anyWhole is a Cpu and a bus with an instruction at Pc.
func anyWhole(r *rand.Rand) (api.Cpu, api.Bus) {
	c, s := anyCpu(r), anyState(r)
	return c, put(s, c.Pc&^1, anyCode(r))
}
