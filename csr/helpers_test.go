package csr_test

import (
	"math"
	"math/rand/v2"
	"testing"

	"anvil/api"
	"anvil/csr"
)

const (
	ones = math.MaxUint64
	uxl  = 0x200000000
)

// numbers is every number that a CSR can have, and one more at either end.
func numbers() []int {
	all := []int{-1}
	for n := range 4097 {
		all = append(all, n)
	}
	return all
}

// farNumbers is numbers that are no CSR's, though the low bits of most of them are one's.
func farNumbers() []int {
	all := []int{math.MinInt, math.MinInt32, math.MaxInt32, math.MaxInt}
	for _, n := range []int{0x300, 0x301, 0x340, 0x3a0, 0x3b0, 0xb00, 0xc00, 0xc01, 0xc1f, 0xf13} {
		all = append(all, n-4096, -n, n+4096, n+8192, n+1<<16, n+1<<31, n+1<<32, n+1<<62, n-1<<32, n+math.MinInt)
	}
	return all
}

// values is 0, all bits 1, and each bit alone.
func values() []uint64 {
	all := []uint64{0, ones}
	for n := range 64 {
		all = append(all, 1<<n)
	}
	return all
}

// field is one number of a Cpu, and which of its bits stay where it is made proper (one by one: what pairs of them do is said elsewhere).
type field struct {
	name string
	of   func(c *api.Cpu) *uint64
	stay uint64
}

// fields is all that a Cpu has in numbers of 64 bits.
func fields() []field {
	all := []field{
		{"Pc", func(c *api.Cpu) *uint64 { return &c.Pc }, ones - 1},
		{"X[0]", func(c *api.Cpu) *uint64 { return &c.X[0] }, 0},
	}
	for i := 1; i < 32; i++ {
		all = append(all, field{"X", func(c *api.Cpu) *uint64 { return &c.X[i] }, ones})
	}
	all = append(all, csrFields()...)
	for i := range 16 {
		all = append(all, field{"Pmp.Addr", func(c *api.Cpu) *uint64 { return &c.Pmp.Addr[i] }, 1<<54 - 1})
	}
	return all
}

// csrFields is those fields that are CSRs. Of MPP no bit stays alone.
func csrFields() []field {
	return []field{
		{"Mstatus", func(c *api.Cpu) *uint64 { return &c.Mstatus }, 1<<3 | 1<<7 | 1<<17 | 1<<21},
		{"Mtvec", func(c *api.Cpu) *uint64 { return &c.Mtvec }, ones - 2},
		{"Mie", func(c *api.Cpu) *uint64 { return &c.Mie }, 1<<3 | 1<<7 | 1<<11},
		{"Mcounteren", func(c *api.Cpu) *uint64 { return &c.Mcounteren }, 1<<0 | 1<<1 | 1<<2},
		{"Mcountinhibit", func(c *api.Cpu) *uint64 { return &c.Mcountinhibit }, 1<<0 | 1<<2},
		{"Menvcfg", func(c *api.Cpu) *uint64 { return &c.Menvcfg }, 1 << 0},
		{"Mscratch", func(c *api.Cpu) *uint64 { return &c.Mscratch }, ones},
		{"Mepc", func(c *api.Cpu) *uint64 { return &c.Mepc }, ones - 1},
		{"Mcause", func(c *api.Cpu) *uint64 { return &c.Mcause }, ones},
		{"Mtval", func(c *api.Cpu) *uint64 { return &c.Mtval }, ones},
		{"Mcycle", func(c *api.Cpu) *uint64 { return &c.Mcycle }, ones},
		{"Minstret", func(c *api.Cpu) *uint64 { return &c.Minstret }, ones},
	}
}

// random is a source that gives the same numbers each time.
func random(seed uint64) *rand.Rand { return rand.New(rand.NewPCG(seed, 9)) }

// anyWord is any bits: few, many, or as many of either kind.
func anyWord(r *rand.Rand) uint64 {
	switch r.IntN(6) {
	case 0:
		return 0
	case 1:
		return ones
	case 2:
		return 1 << r.IntN(64)
	case 3:
		return r.Uint64() & r.Uint64() & r.Uint64()
	}
	return r.Uint64()
}

// anyCpu is a Cpu of any bits at all, those that cannot be too, in this mode. Few of its entries are locked, so that there are always some that take a write.
func anyCpu(r *rand.Rand, mode int) api.Cpu {
	c := api.Cpu{Mode: mode, Waiting: r.IntN(2) == 0, Res: anyRes(r)}
	for _, f := range fields() {
		*f.of(&c) = anyWord(r)
	}
	for i := range c.Pmp.Cfg {
		c.Pmp.Cfg[i] = uint8(r.Uint32())
		if r.IntN(4) > 0 {
			c.Pmp.Cfg[i] &= 0x7f
		}
	}
	return c
}

// anyRes is a reservation, mostly one that can be.
func anyRes(r *rand.Rand) api.Res {
	if r.IntN(3) == 0 {
		return api.Res{Valid: r.IntN(2) == 0, Addr: r.Uint64(), Size: r.IntN(10)}
	}
	size := 4 << r.IntN(2)
	return api.Res{Valid: true, Addr: r.Uint64() &^ uint64(size-1), Size: size}
}

// someCpus is the zero Cpu, one of all bits 1, and some of any bits, all of them in this mode.
func someCpus(seed uint64, mode, n int) []api.Cpu {
	full := api.Cpu{Mode: mode, Waiting: true, Res: api.Res{Valid: true, Addr: ones - 7, Size: 8}}
	for _, f := range fields() {
		*f.of(&full) = ones
	}
	for i := range full.Pmp.Cfg {
		full.Pmp.Cfg[i] = 0x7f
	}
	all := []api.Cpu{{Mode: mode}, full}
	r := random(seed)
	for range n {
		all = append(all, anyCpu(r, mode))
	}
	return all
}

func same(t *testing.T, what string, got, want api.Cpu) {
	t.Helper()
	if got != want {
		t.Errorf("%s is\n%+v, want\n%+v", what, got, want)
	}
}

func read(t *testing.T, c api.Cpu, num int, want uint64) {
	t.Helper()
	if v, legal := csr.Read(c, ones, 9, num); v != want || !legal {
		t.Errorf("Read(%#x) is %#x, %v, want %#x", num, v, legal, want)
	}
}

func noRead(t *testing.T, c api.Cpu, num int) {
	t.Helper()
	if v, legal := csr.Read(c, ones, 9, num); v != 0 || legal {
		t.Errorf("Read(%#x) in mode %d is %#x, %v, want 0, false", num, c.Mode, v, legal)
	}
}

func write(t *testing.T, c api.Cpu, num int, v uint64) api.Cpu {
	t.Helper()
	d, legal := csr.Write(c, num, v)
	if !legal {
		t.Errorf("Write(%#x, %#x) is refused", num, v)
	}
	return d
}

func noWrite(t *testing.T, c api.Cpu, num int, v uint64) {
	t.Helper()
	d, legal := csr.Write(c, num, v)
	if legal {
		t.Errorf("Write(%#x, %#x) in mode %d is legal", num, v, c.Mode)
	}
	same(t, "the Cpu of a write that is refused", d, modelProper(c))
}
