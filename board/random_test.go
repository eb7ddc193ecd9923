package board_test

import (
	"bytes"
	"math/rand/v2"

	"anvil/api"
	"anvil/decode"
	"anvil/encode"
)

// random is a source that gives the same numbers each time.
func random(seed uint64) *rand.Rand { return rand.New(rand.NewPCG(seed, 15)) }

func one[T any](r *rand.Rand, of ...T) T { return of[r.IntN(len(of))] }

// few is how many bytes of RAM most of these decks have.
const few = 128

// somewhere is an address, mostly of RAM, mostly aligned, or a device's.
func somewhere(r *rand.Rand) uint64 {
	switch r.IntN(20) {
	case 0:
		return r.Uint64() >> r.IntN(64)
	case 1, 2, 3:
		return one(r, uint64(msip), mtimecmp, mtimecmp+4, mtime, mtime+4, console, console+uint64(r.IntN(8)))
	case 4:
		return finisher
	}
	addr := ram + uint64(r.IntN(few+4))
	if r.IntN(12) > 0 {
		addr &^= 7
	}
	return addr
}

// csrs is numbers of CSRs: of every kind that there is, and some that are none.
func csrs() []uint32 {
	return []uint32{
		0xf11, 0xf13, 0xf15, 0x300, 0x300, 0x301, 0x304, 0x304, 0x305, 0x306, 0x30a, 0x320, 0x323, 0x33f,
		0x340, 0x341, 0x342, 0x343, 0x344, 0x3a0, 0x3a2, 0x3b0, 0x3b2, 0x3bf, 0xb00, 0xb02, 0xb03, 0xb1f,
		0xc00, 0xc01, 0xc02, 0xc03, 0xc1f, 0x3a1, 0x3a3, 0x3c0, 0x100, 0x7a0, 0xb01, 0xb20, 0xfff, 0, 0x105,
	}
}

// loose is the bits of an instruction of this operation that are thrown: its registers are mostly x8 to x15, its number is mostly small, and of an access mostly a multiple of 8.
func loose(r *rand.Rand, op int) uint32 {
	if r.IntN(10) == 0 {
		return 0xffffff80
	}
	switch {
	case op >= api.OpLb && op <= api.OpLwu:
		return 0x03838380
	case op >= api.OpSb && op <= api.OpSd:
		return 0x02738c00
	case op >= api.OpBeq && op <= api.OpBgeu:
		return 0x00738f00
	case op == api.OpJal:
		return 0x03c00380
	case op == api.OpJalr:
		return 0x02438380
	}
	return 0x00738380
}

// anyOf is the bits of an instruction of this operation.
func anyOf(r *rand.Rand, op int) uint32 {
	bare, _ := encode.Encode(api.Instr{Op: op})
	if op >= api.OpCsrrw && op <= api.OpCsrrci {
		return bare | one(r, csrs()...)<<20 | r.Uint32()&0x78780
	}
	for range 8 {
		raw := bare | r.Uint32()&loose(r, op)
		if high := raw | 0x40400; r.IntN(8) > 0 && decode.Decode(high).Op == op {
			raw = high
		}
		if decode.Decode(raw).Op == op {
			return raw
		}
	}
	return bare
}

// anyCode is the bits of something that may stand in a program: mostly an instruction of any operation, short where it can be, every other time.
func anyCode(r *rand.Rand) (uint32, int) {
	var raw uint32
	switch r.IntN(24) {
	case 0:
		raw = r.Uint32()
	case 1:
		raw = one[uint32](r, 0, 0xffffffff, 0x10200073, 0x12000073, 0x8002, 0x9002, 0x73)
	case 2:
		raw = one[uint32](r, 0x00a5a023, 0x30200073, 0x73) // sw a0, 0(a1); mret; ecall
	case 3, 4, 5:
		raw = anyOf(r, api.OpLb+r.IntN(11))
	case 6, 7:
		raw = anyOf(r, api.OpLrW+r.IntN(api.Ops-api.OpLrW))
	default:
		raw = anyOf(r, 1+r.IntN(api.Ops-1))
	}
	if p, is := encode.Compress(decode.Decode(raw)); is && r.IntN(2) == 0 {
		raw = uint32(p)
	}
	return raw, decode.Length(raw)
}

// anyProgram is so many bytes of it.
func anyProgram(r *rand.Rand, size int) []byte {
	var b []byte
	for len(b) < size {
		raw, length := anyCode(r)
		b = append(b, bytesOf(raw)[:length]...)
	}
	return b[:size]
}

// anyCpu is a Cpu of any bits, those that cannot be too: its registers are mostly addresses, its handler and its Pc mostly in RAM, its entries mostly let U through.
func anyCpu(r *rand.Rand) api.Cpu {
	c := api.Cpu{Mode: one(r, 3, 3, 3, 0, 0, 1, 2, -1), Waiting: r.IntN(16) == 0}
	for _, w := range []*uint64{
		&c.Mstatus, &c.Mcounteren, &c.Menvcfg, &c.Mscratch, &c.Mepc, &c.Mcause, &c.Mtval, &c.Mcycle, &c.Minstret,
	} {
		*w = r.Uint64() | ones>>r.IntN(256)
	}
	for i := range c.X {
		switch c.X[i] = somewhere(r); r.IntN(10) {
		case 0:
			c.X[i] = r.Uint64() >> r.IntN(64)
		case 1:
			c.X[i] = one[uint64](r, 0x5555, 0x73333, 0xffff3333, 3, 0)
		}
	}
	if r.IntN(2) == 0 {
		c.X[10], c.X[11] = one[uint64](r, 0x5555, 0x73333, 0xffff3333, 0x7777), finisher
	}
	c.Pc, c.Mtvec = ram+uint64(r.IntN(few/2)), ram+few+uint64(r.IntN(2))
	if r.IntN(4) == 0 {
		c.Pc, c.Mtvec = somewhere(r), somewhere(r)
	}
	if r.IntN(2) == 0 {
		c.Mepc = ram + uint64(r.IntN(few))
	}
	if r.IntN(3) == 0 {
		c.Mie = r.Uint64()
	}
	if r.IntN(4) == 0 {
		c.Mcountinhibit = r.Uint64()
	}
	if r.IntN(2) == 0 {
		width := 4 << r.IntN(2)
		c.Res = api.Res{Valid: r.IntN(8) > 0, Addr: c.X[8+r.IntN(8)] &^ uint64(width-1), Size: width - r.IntN(8)/7}
	}
	return anyEntries(r, c)
}

// anyEntries is a Cpu with entries of protection: some that cut RAM, and mostly one over all behind them.
func anyEntries(r *rand.Rand, c api.Cpu) api.Cpu {
	for range r.IntN(4) {
		i := r.IntN(8)
		c.Pmp.Cfg[i], c.Pmp.Addr[i] = uint8(r.Uint32())&one[uint8](r, 0xff, 0x7f), somewhere(r)/4|one[uint64](r, 0, 0, 1, 3)
	}
	if r.IntN(6) > 0 {
		c.Pmp.Cfg[8], c.Pmp.Addr[8] = 0x18|one[uint8](r, 7, 7, 7, 5, 4, 3), ones
	}
	return c
}

func anyWorld(r *rand.Rand) api.World {
	w := api.World{Tick: r.IntN(2) == 0, Ext: r.IntN(12) == 0, Soft: r.IntN(12) == 0}
	w.Input = make([]byte, one(r, 0, 0, 0, 0, 0, 0, 1, 2, 3, 30, 64))
	for i := range w.Input {
		w.Input[i] = byte(r.Uint32())
	}
	return w
}

func anyWorlds(r *rand.Rand, n int) []api.World {
	all := worlds(n)
	for i := range all {
		all[i] = anyWorld(r)
	}
	return all
}

// tended is a handler for all traps: it goes on behind the instruction. Where Mtvec has its bit 0, an interrupt comes in at a place of its own.
func tended() []byte {
	skip := bytesOf(0x34102ff3, 0x004f8f93, 0x341f9073, 0x30200073) // csrr t6, mepc; addi t6, t6, 4; csrw mepc, t6; mret
	return append(skip, bytes.Repeat(bytesOf(0x30200073), 12)...)
}

// anyDeck is a deck of any kind with so many worlds: a program, the handler behind it, and parts over them.
func anyDeck(r *rand.Rand, n int) api.Deck {
	d := api.Deck{Ram: few + 64, Cpu: anyCpu(r), Worlds: anyWorlds(r, n)}
	d.Mtime = one(r, r.Uint64(), uint64(r.IntN(8)), ones, ones-1, ones-uint64(r.IntN(40)))
	d.Parts = []api.Seg{{Addr: ram, Size: few, Flags: 7, Data: anyProgram(r, few)}, {Addr: ram + few, Size: 64, Flags: 5, Data: tended()}}
	for range r.IntN(3) {
		size := r.IntN(20)
		p := api.Seg{Addr: ram + uint64(r.IntN(few-size+1)), Size: uint64(size), Flags: r.IntN(8)}
		p.Data = anyProgram(r, r.IntN(size+1))
		d.Parts = append(d.Parts, p)
	}
	return d
}
