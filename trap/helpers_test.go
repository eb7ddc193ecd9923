package trap_test

import (
	"math"
	"math/rand/v2"
	"testing"

	"anvil/api"
	"anvil/trap"
)

const (
	ones  = math.MaxUint64
	uxl   = 0x200000000
	mie   = 1 << 3
	mpie  = 1 << 7
	mpp   = 3 << 11
	mprv  = 1 << 17
	tw    = 1 << 21
	comes = 1 << 63
)

// hart is a Cpu in this mode with these bits of Mstatus, as the chapter's examples have it.
func hart(mode int, status uint64) api.Cpu {
	return api.Cpu{Pc: 0x80000000, Mode: mode, Mstatus: uxl | status}
}

// statuses is every combination of MIE, MPIE, MPRV, TW and MPP (those that are no mode too), each alone and among all bits else.
func statuses() []uint64 {
	var all []uint64
	for n := range uint64(64) {
		v := n&1<<3 | n>>1&1<<7 | n>>2&1<<17 | n>>3&1<<21 | n>>4<<11
		all = append(all, v, v|^uint64(mie|mpie|mpp|mprv|tw))
	}
	return all
}

// modes is M, U, and numbers that are no mode and count as U.
func modes() []int {
	return []int{3, 0, 1, 2, -1, 7, 3 - 256, 3 + 1<<32, math.MinInt, math.MaxInt}
}

// lines is every combination of the bits 3, 7 and 11.
func lines() []uint64 {
	var all []uint64
	for n := range uint64(8) {
		all = append(all, n&1<<3|n>>1&1<<7|n>>2<<11)
	}
	return all
}

// noises is bits of mip and Mie that do not count.
func noises() []uint64 { return []uint64{0, 0x222, ^uint64(0x888)} }

// causes is interrupts and exceptions, usual and not.
func causes() []uint64 {
	all := []uint64{
		0, 1, 2, 3, 5, 8, 11, 1 << 61, 1 << 62, comes - 1, comes - 2,
		comes, comes + 1, comes + 3, comes + 7, comes + 11, comes + 63, comes + 1<<61, comes + 1<<62, ones - 1, ones,
	}
	for n := range 64 {
		all = append(all, 1<<n, comes|1<<n)
	}
	return all
}

// vectors is values of Mtvec with every value of the low two bits, some so high that a handler's address wraps.
func vectors() []uint64 {
	var all []uint64
	for _, base := range []uint64{0, 4, 0x100, 0x80000200, 1 << 63, ones - 31, ones - 3} {
		for low := range uint64(4) {
			all = append(all, base|low)
		}
	}
	return all
}

// field is one number of a Cpu.
type field struct {
	name string
	of   func(c *api.Cpu) *uint64
}

// fields is all that a Cpu has in numbers of 64 bits.
func fields() []field {
	all := []field{
		{"Pc", func(c *api.Cpu) *uint64 { return &c.Pc }},
		{"Mstatus", func(c *api.Cpu) *uint64 { return &c.Mstatus }},
		{"Mtvec", func(c *api.Cpu) *uint64 { return &c.Mtvec }},
		{"Mie", func(c *api.Cpu) *uint64 { return &c.Mie }},
		{"Mcounteren", func(c *api.Cpu) *uint64 { return &c.Mcounteren }},
		{"Mcountinhibit", func(c *api.Cpu) *uint64 { return &c.Mcountinhibit }},
		{"Menvcfg", func(c *api.Cpu) *uint64 { return &c.Menvcfg }},
		{"Mscratch", func(c *api.Cpu) *uint64 { return &c.Mscratch }},
		{"Mepc", func(c *api.Cpu) *uint64 { return &c.Mepc }},
		{"Mcause", func(c *api.Cpu) *uint64 { return &c.Mcause }},
		{"Mtval", func(c *api.Cpu) *uint64 { return &c.Mtval }},
		{"Mcycle", func(c *api.Cpu) *uint64 { return &c.Mcycle }},
		{"Minstret", func(c *api.Cpu) *uint64 { return &c.Minstret }},
	}
	for i := range 32 {
		all = append(all, field{"X", func(c *api.Cpu) *uint64 { return &c.X[i] }})
	}
	for i := range 16 {
		all = append(all, field{"Pmp.Addr", func(c *api.Cpu) *uint64 { return &c.Pmp.Addr[i] }})
	}
	return all
}

// random is a source that gives the same numbers each time.
func random(seed uint64) *rand.Rand { return rand.New(rand.NewPCG(seed, 10)) }

// anyWord is any bits: few, many, or as many of either kind.
func anyWord(r *rand.Rand) uint64 {
	switch r.IntN(6) {
	case 0:
		return 0
	case 1:
		return ones
	case 2:
		return 1 << r.IntN(64)
	case 3:
		return r.Uint64() & r.Uint64() & r.Uint64()
	}
	return r.Uint64()
}

// anyCpu is a Cpu of any bits at all, those that cannot be too.
func anyCpu(r *rand.Rand) api.Cpu {
	all := modes()
	c := api.Cpu{Mode: all[r.IntN(len(all))], Waiting: r.IntN(2) == 0, Res: anyRes(r)}
	if r.IntN(2) == 0 {
		c.Mode = api.M
	}
	for _, f := range fields() {
		*f.of(&c) = anyWord(r)
	}
	for i := range c.Pmp.Cfg {
		c.Pmp.Cfg[i] = uint8(r.Uint32())
	}
	return c
}

// anyRes is a reservation, mostly one that can be.
func anyRes(r *rand.Rand) api.Res {
	if r.IntN(3) == 0 {
		return api.Res{Valid: r.IntN(2) == 0, Addr: r.Uint64(), Size: r.IntN(10)}
	}
	size := 4 << r.IntN(2)
	return api.Res{Valid: true, Addr: r.Uint64() &^ uint64(size-1), Size: size}
}

// full is a Cpu in which everything is set that can be.
func full() api.Cpu {
	c := api.Cpu{Mode: api.M, Waiting: true, Res: api.Res{Valid: true, Addr: ones - 7, Size: 8}}
	for _, f := range fields() {
		*f.of(&c) = ones
	}
	for i := range c.Pmp.Cfg {
		c.Pmp.Cfg[i] = 0xff
	}
	return c
}

// someCpus is the zero Cpu, a full one, and some of any bits.
func someCpus(seed uint64, n int) []api.Cpu {
	all := []api.Cpu{{}, {Mode: api.M}, full()}
	r := random(seed)
	for range n {
		all = append(all, anyCpu(r))
	}
	return all
}

func same(t *testing.T, what string, got, want api.Cpu) {
	t.Helper()
	if got != want {
		t.Errorf("%s is\n%+v, want\n%+v", what, got, want)
	}
}

func pending(t *testing.T, c api.Cpu, mip uint64, want int) {
	t.Helper()
	if n, is := trap.Pending(c, mip); n != want || !is {
		t.Errorf("mode %d, Mstatus %#x, Mie %#x, mip %#x: pending is %d, %v, want %d", c.Mode, c.Mstatus, c.Mie, mip, n, is, want)
	}
}

func noPending(t *testing.T, c api.Cpu, mip uint64) {
	t.Helper()
	if n, is := trap.Pending(c, mip); n != 0 || is {
		t.Errorf("mode %d, Mstatus %#x, Mie %#x, mip %#x: pending is %d, %v, want 0, false", c.Mode, c.Mstatus, c.Mie, mip, n, is)
	}
}

func back(t *testing.T, c api.Cpu) api.Cpu {
	t.Helper()
	d, legal := trap.Return(c)
	if !legal {
		t.Errorf("mode %d, Mstatus %#x: Return is refused", c.Mode, c.Mstatus)
	}
	return d
}
