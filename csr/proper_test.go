package csr_test

import (
	"math"
	"testing"

	"anvil/api"
	"anvil/csr"
)

func TestC1Zero(t *testing.T) {
	same(t, "Proper of the zero Cpu", csr.Proper(api.Cpu{}), api.Cpu{Mstatus: uxl})
}

// TestC1Fields: of each field all bits at once, and each bit alone, in a Cpu that is else zero.
func TestC1Fields(t *testing.T) {
	for _, f := range fields() {
		for _, v := range values() {
			c, want := api.Cpu{}, api.Cpu{Mstatus: uxl}
			*f.of(&c) = v
			*f.of(&want) |= v & f.stay
			if f.name == "Mstatus" && v == ones {
				want.Mstatus |= 0x1800
			}
			same(t, "Proper of "+f.name, csr.Proper(c), want)
		}
	}
}

func TestC1Ones(t *testing.T) {
	c := api.Cpu{Mode: ones >> 1, Waiting: true, Res: api.Res{Valid: true, Addr: ones, Size: ones >> 1}}
	for _, f := range fields() {
		*f.of(&c) = ones
	}
	want := api.Cpu{
		Pc: ones - 1, Waiting: true,
		Mstatus: 0x200221888, Mtvec: ones - 2, Mie: 0x888, Mcounteren: 7, Mcountinhibit: 5, Menvcfg: 1,
		Mscratch: ones, Mepc: ones - 1, Mcause: ones, Mtval: ones, Mcycle: ones, Minstret: ones,
	}
	for i := 1; i < 32; i++ {
		want.X[i] = ones
	}
	for i := range 16 {
		c.Pmp.Cfg[i] = 0xff
		want.Pmp.Cfg[i], want.Pmp.Addr[i] = 0x9f, 1<<54-1
	}
	same(t, "Proper of all bits 1", csr.Proper(c), want)
}

func TestC1Mpp(t *testing.T) {
	want := [4]uint64{0, 0, 0, 0x1800}
	for mpp := range uint64(4) {
		for _, rest := range []uint64{0, 1 << 3, 1 << 7, 1 << 17, 1 << 21, 0x220088} {
			c := csr.Proper(api.Cpu{Mstatus: mpp<<11 | rest})
			same(t, "Proper of an MPP", c, api.Cpu{Mstatus: want[mpp] | rest | uxl})
		}
		c := csr.Proper(api.Cpu{Mstatus: ones&^0x1800 | mpp<<11})
		same(t, "Proper of an MPP among ones", c, api.Cpu{Mstatus: want[mpp] | 0x200220088})
	}
}

// TestC1Uxl: whatever bits 33:32 are, they become 2.
func TestC1Uxl(t *testing.T) {
	for v := range uint64(4) {
		same(t, "Proper of an UXL", csr.Proper(api.Cpu{Mstatus: v << 32}), api.Cpu{Mstatus: uxl})
	}
}

func TestC1Mode(t *testing.T) {
	modes := []int{math.MinInt, math.MinInt32, 3 - 256, 3 + 256, 3 + 1<<16, 3 + 1<<32, math.MaxInt32, math.MaxInt}
	for m := -20; m <= 20; m++ {
		modes = append(modes, m)
	}
	for _, m := range modes {
		want := 0
		if m == 3 {
			want = 3
		}
		same(t, "Proper of a mode", csr.Proper(api.Cpu{Mode: m}), api.Cpu{Mode: want, Mstatus: uxl})
	}
}

func TestC1Waiting(t *testing.T) {
	for _, mode := range []int{api.U, api.M} {
		same(t, "Proper of one that waits", csr.Proper(api.Cpu{Mode: mode, Waiting: true}), api.Cpu{Mode: mode, Waiting: true, Mstatus: uxl})
	}
}

func TestC1Res(t *testing.T) {
	sizes := []int{math.MinInt, math.MinInt32, -8, -4, 32, 64, 4 + 1<<32, 8 + 1<<32, math.MaxInt32, math.MaxInt}
	for size := -1; size <= 17; size++ {
		sizes = append(sizes, size)
	}
	addrs := []uint64{0x80000000, 0x80000004, 1 << 63, ones - 3, ones - 7, ones}
	for addr := range uint64(40) {
		addrs = append(addrs, addr)
	}
	for _, size := range sizes {
		for _, addr := range addrs {
			res := api.Res{Valid: true, Addr: addr, Size: size}
			want := api.Res{}
			if size == 4 && addr%4 == 0 || size == 8 && addr%8 == 0 {
				want = res
			}
			same(t, "Proper of a reservation", csr.Proper(api.Cpu{Res: res}), api.Cpu{Mstatus: uxl, Res: want})
			res.Valid = false
			same(t, "Proper of no reservation", csr.Proper(api.Cpu{Res: res}), api.Cpu{Mstatus: uxl})
		}
	}
}

func TestC1Pmp(t *testing.T) {
	for i := range 16 {
		for cfg := range 256 {
			c, want := api.Cpu{}, api.Cpu{Mstatus: uxl}
			c.Pmp.Cfg[i], c.Pmp.Addr[i] = uint8(cfg), ones
			want.Pmp.Cfg[i], want.Pmp.Addr[i] = uint8(cfg)&0x9f, 1<<54-1
			if cfg&3 == 2 {
				want.Pmp.Cfg[i] -= 2
			}
			same(t, "Proper of an entry", csr.Proper(c), want)
		}
	}
}

// isProper is DOC.md's paragraph "Proper", sentence by sentence.
func isProper(c api.Cpu) bool {
	mpp := c.Mstatus >> 11 & 3
	is := c.Pc%2 == 0 && c.X[0] == 0 && (c.Mode == 0 || c.Mode == 3)
	is = is && c.Mstatus&^0x221888 == uxl && (mpp == 0 || mpp == 3)
	is = is && c.Mtvec&2 == 0 && c.Mie&^0x888 == 0 && c.Mcounteren < 8 && c.Mcountinhibit&^5 == 0 && c.Menvcfg < 2 && c.Mepc%2 == 0
	for i := range 16 {
		cfg := c.Pmp.Cfg[i]
		is = is && cfg&0x60 == 0 && cfg&3 != 2 && c.Pmp.Addr[i] < 1<<54
	}
	if !c.Res.Valid {
		return is && c.Res.Addr == 0 && c.Res.Size == 0
	}
	return is && (c.Res.Size == 4 || c.Res.Size == 8) && c.Res.Addr%uint64(c.Res.Size) == 0
}

func TestC1Any(t *testing.T) {
	r := random(1)
	for n := range 20_000 {
		c := anyCpu(r, n%6-1)
		d := csr.Proper(c)
		same(t, "Proper", d, modelProper(c))
		if !isProper(d) {
			t.Errorf("C1: Proper(%+v) is not proper:\n%+v", c, d)
		}
	}
}

func TestC1Twice(t *testing.T) {
	r := random(2)
	for n := range 20_000 {
		c := csr.Proper(anyCpu(r, n%6-1))
		same(t, "Proper of what is proper", csr.Proper(c), c)
	}
}

// TestSection9_1First: each function does with any Cpu what it does with the proper one, and what it answers is proper.
func TestSection9_1First(t *testing.T) {
	r := random(3)
	every := numbers()
	for n := range 20_000 {
		c := anyCpu(r, n%6-1)
		p := csr.Proper(c)
		num, v := every[r.IntN(len(every))], anyWord(r)
		if n%2 == 0 {
			num = someCsr(r)
		}
		a, may := csr.Read(c, v, v, num)
		if b, too := csr.Read(p, v, v, num); a != b || may != too {
			t.Fatalf("Read(%+v, .., %#x) is another of the proper Cpu", c, num)
		}
		d, legal := csr.Write(c, num, v)
		if e, too := csr.Write(p, num, v); d != e || legal != too || !isProper(d) {
			t.Fatalf("Write(%+v, %#x, %#x) is another of the proper Cpu, or not proper", c, num, v)
		}
		was := anyCpu(r, n%6-1)
		d = csr.Count(c, was, n%2 == 0, n%3 == 0, n%5 == 0)
		if e := csr.Count(p, csr.Proper(was), n%2 == 0, n%3 == 0, n%5 == 0); d != e || !isProper(d) {
			t.Fatalf("Count(%+v, %+v, ..) is another of the proper Cpus, or not proper", c, was)
		}
	}
}
