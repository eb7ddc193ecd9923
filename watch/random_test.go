package watch_test

import (
	"fmt"
	"math/rand/v2"
	"testing"

	"anvil/api"
)

// random is a source that gives the same numbers each time.
func random(seed uint64) *rand.Rand { return rand.New(rand.NewPCG(seed, 18)) }

func one[T any](r *rand.Rand, of ...T) T { return of[r.IntN(len(of))] }

func anyBytes(r *rand.Rand, n int) []byte {
	b := make([]byte, n)
	for i := range b {
		b[i] = byte(r.Uint32())
	}
	return b
}

// size is the bytes of RAM of these decks: a program, words that it reaches, and the handler in the last quarter.
const size = 256

// anyBase is a register with an address: of RAM mostly (s0, s1, a4), of a device, or anything.
func anyBase(r *rand.Rand) string {
	return one(r, "s0", "s0", "s0", "s1", "s1", "a4", "s2", "s3", "s4", "s5", "s7", "s7")
}

func anyRegister(r *rand.Rand) string {
	return one(r, "zero", "a0", "a1", "a2", "a3", "a4", "t0", "s8")
}

// anyCsr is a CSR's name, of some that there are not too.
func anyCsr(r *rand.Rand) string {
	return one(r, "mstatus", "mstatus", "mie", "mtvec", "mscratch", "mepc", "mcause", "mtval", "mip", "misa", "mcounteren", "mcountinhibit", "menvcfg",
		"mcycle", "minstret", "cycle", "time", "instret", "pmpcfg0", "pmpcfg0", "pmpcfg2", "pmpaddr0", "pmpaddr1", "pmpaddr2", "pmpaddr7", "mhpmcounter3", "mhartid", "0x7a0", "0x100")
}

// anyLine is an instruction of a program with so many lines.
func anyLine(r *rand.Rand, lines int) string {
	x, y, at := anyRegister(r), anyRegister(r), anyBase(r)
	to := fmt.Sprintf("l%d", r.IntN(lines))
	by := one(r, 0, 0, 0, 4, 8, 16, 1, 2, 5)
	switch r.IntN(13) {
	case 12:
		return fmt.Sprintf(one(r, "sb %s, 0(s2)", "sb %s, 1(s2)", "lbu %s, 0(s2)", "sd %s, 0(s3)", "sw %s, 0(s4)", "sw %s, 0(s5)", "sw s9, 0(s6) # %s"), x)
	case 0, 1:
		return fmt.Sprintf("%s %s, %d(%s)", one(r, "sb", "sh", "sw", "sd", "sd", "sw"), x, by, at)
	case 2:
		return fmt.Sprintf("%s %s, %d(%s)", one(r, "lb", "lh", "lw", "ld", "lbu", "lhu", "lwu", "ld"), x, by, at)
	case 3:
		return fmt.Sprintf("%s %s, %s, (%s)", one(r, "amoadd.w", "amoswap.d", "amomaxu.w", "amoxor.d", "sc.w", "sc.d", "sc.w", "sc.d"), x, y, at)
	case 4:
		return fmt.Sprintf("%s %s, (%s)", one(r, "lr.w", "lr.d"), x, at)
	case 5:
		return fmt.Sprintf("%s %s, %s, %s", one(r, "csrrw", "csrrs", "csrrc"), x, anyCsr(r), y)
	case 6:
		return fmt.Sprintf("%s %s, %s, %d", one(r, "csrrwi", "csrrsi", "csrrci"), x, anyCsr(r), r.IntN(32))
	case 7:
		return fmt.Sprintf(one(r, "j %s", "beqz a0, %s", "bnez a1, %s", "bltu a0, a1, %s", "jal ra, %s", "jal zero, %s"), to)
	case 8:
		return one(r, "wfi", "wfi", "ecall", "ebreak", "mret", "mret", "fence", "fence.i", ".word 0xffffffff", ".half 0", "jr ra", "jr a4", "sw s9, 0(s6)")
	case 9:
		return one(r, "c.addi a0, 1", "c.nop", "c.sw a1, 0(s0)", "c.ld a2, 8(s0)", "c.sd a3, 0(s1)", "c.mv a0, a1", "c.ebreak", "c.lw a5, 4(s0)")
	}
	return fmt.Sprintf("%s %s, %s, %s", one(r, "add", "sub", "mul", "divu", "xor", "sltu", "sraw", "remw"), x, y, anyRegister(r))
}

// anyAddress is where an access of these decks may go: mostly aligned, and in RAM.
func anyAddress(r *rand.Rand) uint64 {
	return one(r, ram+128+8*r.Uint64N(8), ram+128+8*r.Uint64N(8), ram+128+8*r.Uint64N(8), ram+r.Uint64N(size), ram+size-r.Uint64N(9), ram-r.Uint64N(9), ones-r.Uint64N(9), r.Uint64N(20), r.Uint64())
}

// anyEntries is entries of protection: some that cut RAM or a device, and mostly one over all behind them.
func anyEntries(r *rand.Rand) api.Pmp {
	var p api.Pmp
	for range r.IntN(4) {
		i := r.IntN(8)
		p.Cfg[i] = uint8(r.Uint32()) & one[uint8](r, 0xff, 0x7f, 0x7f)
		p.Addr[i] = one(r, ram/4+r.Uint64N(size/4), ram/4+32+r.Uint64N(16), one[uint64](r, msip, mtimecmp, mtime, console)/4, r.Uint64()>>r.IntN(64)) | one[uint64](r, 0, 0, 1, 3, 7)
	}
	if r.IntN(8) > 0 {
		p.Cfg[8], p.Addr[8] = 0x18|one[uint8](r, 7, 7, 7, 7, 5, 3), ones
	}
	return p
}

// anyCpu is a Cpu of any bits, those that cannot be too, whose registers are such as the lines above reach by.
func anyCpu(r *rand.Rand) api.Cpu {
	c := api.Cpu{Mode: one(r, 3, 3, 3, 0, 0, 0, 1, 2, -1), Waiting: r.IntN(10) == 0, Pc: ram + r.Uint64N(2)}
	for _, w := range []*uint64{&c.Mstatus, &c.Mcounteren, &c.Menvcfg, &c.Mscratch, &c.Mepc, &c.Mcause, &c.Mtval, &c.Mcycle, &c.Minstret} {
		*w = r.Uint64() | ones>>r.IntN(256)
	}
	for i := range c.X {
		c.X[i] = one(r, 0, 1, r.Uint64N(300), ones, r.Uint64(), anyAddress(r))
	}
	c.X[8], c.X[9] = ram+128+8*r.Uint64N(8), ram+128+8*r.Uint64N(8) // s0, s1
	c.X[18], c.X[19], c.X[20], c.X[21], c.X[22], c.X[23] = console, mtime, mtimecmp, msip, finisher, anyAddress(r)
	c.X[25] = one(r, 0x5555, 0x3333, 0x73333, r.Uint64()) // s9
	c.Mtvec = one(r, ram+192, ram+192, ram+193, anyAddress(r))
	if r.IntN(2) == 0 {
		c.Mepc = ram + 2*r.Uint64N(40)
	}
	c.Mie, c.Mcountinhibit = one(r, 0, r.Uint64(), 0x888), one(r, 0, 0, r.Uint64())
	if r.IntN(2) == 0 {
		width := 4 << r.IntN(2)
		c.Res = api.Res{Valid: r.IntN(8) > 0, Addr: c.X[8+r.IntN(2)], Size: width - r.IntN(8)/7}
	}
	c.Pmp = anyEntries(r)
	return c
}

func anyWorlds(r *rand.Rand, n int) []api.World {
	all := make([]api.World, n)
	for i := range all {
		all[i] = api.World{Tick: r.IntN(2) == 0, Ext: r.IntN(14) == 0, Soft: r.IntN(14) == 0, Input: anyBytes(r, one(r, 0, 0, 0, 0, 1, 2, 30))}
	}
	return all
}

// anyDeck is a deck with so many worlds: a program of any lines, words to reach, and a handler that goes on behind the instruction that was stopped.
func anyDeck(t *testing.T, r *rand.Rand, n int) api.Deck {
	t.Helper()
	lines := make([]string, 4+r.IntN(24))
	for i := range lines {
		lines[i] = fmt.Sprintf("l%d: %s", i, anyLine(r, len(lines)))
	}
	lines = append(lines, "j l0", ".org 0x80000080")
	for range 8 {
		lines = append(lines, fmt.Sprintf(".dword %#x", r.Uint64()))
	}
	lines = append(lines, "csrr t6, mepc", "addi t6, t6, 4", "csrw mepc, t6", "mret")
	for range 12 {
		lines = append(lines, "mret") // where the interrupts come in
	}
	d := sourced(t, size, lines...)
	d.Cpu, d.Worlds = anyCpu(r), anyWorlds(r, n)
	d.Mtime = one(r, 0, 5, ones, ones-1, r.Uint64())
	return d
}

// anyBus is a state of a bus of any kind, with this RAM: off at times, its lines up and down, its lists full at times.
func anyBus(r *rand.Rand, memory []byte) api.Bus {
	s := api.Bus{Ram: memory, Msip: r.Uint32N(2), Mtime: one(r, 0, 5, ones, r.Uint64()), Ext: r.IntN(2) == 0, Soft: r.IntN(2) == 0}
	s.Mtimecmp = one(r, ones, s.Mtime+r.Uint64N(3)-1, r.Uint64())
	s.Ier, s.Lcr, s.Mcr, s.Scratch = uint8(r.IntN(16)), uint8(r.Uint32()), uint8(r.IntN(32)), uint8(r.Uint32())
	s.Overrun = r.IntN(2) == 0
	s.Input, s.Output = anyBytes(r, one(r, 0, 0, 1, 5, 63, 64)), anyBytes(r, one(r, 0, 0, 1, 9, 4095, 4096))
	if s.Off = one(r, 0, 0, 0, 0, 0, 0, 0, 0, 0, 1, 2); s.Off == api.Failed {
		s.Code = r.IntN(65536)
	}
	return s
}

// anyWhole is a whole of any kind that can be, its Cpu as it comes.
func anyWhole(t *testing.T, r *rand.Rand) api.Whole {
	t.Helper()
	w := made(t, anyDeck(t, r, 0)).Whole()
	return api.Whole{Cpu: anyCpu(r), Bus: anyBus(r, w.Bus.Ram)}
}
