package csr_test

import (
	"testing"

	"anvil/api"
	"anvil/csr"
)

// theCsrs is the numbers of the document's table, first and last by turns.
func theCsrs() []int {
	ends := []int{
		0x300, 0x301, 0x304, 0x306, 0x30a, 0x30a, 0x320, 0x320, 0x323, 0x33f, 0x340, 0x344, 0x3a0, 0x3a0, 0x3a2, 0x3a2,
		0x3b0, 0x3bf, 0xb00, 0xb00, 0xb02, 0xb1f, 0xc00, 0xc1f, 0xf11, 0xf15,
	}
	var all []int
	for i := 0; i < len(ends); i += 2 {
		all = append(all, span(ends[i], ends[i+1])...)
	}
	return all
}

func TestC2Exists(t *testing.T) {
	is := map[int]int{}
	for _, n := range theCsrs() {
		is[n]++
	}
	if len(is) != 127 {
		t.Fatalf("the table has %d CSRs", len(is))
	}
	for _, n := range numbers() {
		if csr.Exists(n) != (is[n] == 1) {
			t.Errorf("C2: Exists(%#x) is %v", n, csr.Exists(n))
		}
	}
	for n := 4096; n < 12_000; n++ {
		if csr.Exists(n) || csr.Exists(-n) {
			t.Errorf("C2: %#x or its negative is there", n)
		}
	}
}

func TestC2Far(t *testing.T) {
	for _, n := range farNumbers() {
		if csr.Exists(n) {
			t.Errorf("C2: %#x is there", n)
		}
	}
}

func TestC3Far(t *testing.T) {
	for _, mode := range []int{api.U, api.M} {
		for _, c := range someCpus(4, mode, 3) {
			for _, n := range farNumbers() {
				noRead(t, c, n)
				noWrite(t, c, n, ones)
			}
		}
	}
}

// TestC3Machine: every number in M, of Cpus of which most are not proper.
func TestC3Machine(t *testing.T) {
	t.Parallel()
	for _, c := range someCpus(5, api.M, 3) {
		for _, n := range numbers() {
			readsAsModel(t, c, ones, ones, n)
			readsAsModel(t, c, 0, 0, n)
		}
	}
}

// TestC3User: every number in U, with every value of Mcounteren's low bits, the others 0 and 1.
func TestC3User(t *testing.T) {
	t.Parallel()
	for _, c := range someCpus(6, api.U, 1) {
		for low := range uint64(8) {
			for _, high := range []uint64{0, ones - 7} {
				c.Mcounteren = high | low
				for _, n := range numbers() {
					readsAsModel(t, c, ones, ones, n)
				}
			}
		}
	}
}

// TestC3Modes: a mode that is none is U.
func TestC3Modes(t *testing.T) {
	for _, mode := range []int{-1, 1, 2, 4, 7, 259} {
		c := api.Cpu{Mode: mode, Mcounteren: 1, Mcycle: 4}
		noRead(t, c, 0x300)
		noRead(t, c, 0xb00)
		noRead(t, c, 0xf13)
		noRead(t, c, 0xc01)
		read(t, c, 0xc00, 4)
	}
}

// TestC3Mcounteren: in M it does not count.
func TestC3Mcounteren(t *testing.T) {
	for low := range uint64(8) {
		c := api.Cpu{Mode: api.M, Mcounteren: low, Mcycle: 4, Minstret: 5}
		read(t, c, 0xc00, 4)
		read(t, c, 0xc01, 9)
		read(t, c, 0xc02, 5)
		for n := 0xc03; n <= 0xc1f; n++ {
			read(t, c, n, 0)
		}
	}
}

// TestC3Bus: mip and time are the bus's, bit by bit; no other CSR tells of them.
func TestC3Bus(t *testing.T) {
	c := api.Cpu{Mode: api.M, Mie: 0x888, Mcycle: 6}
	for _, v := range values() {
		for _, num := range theCsrs() {
			got, _ := csr.Read(c, v, ^v, num)
			want, _ := csr.Read(c, 0, 0, num)
			switch num {
			case 0x344:
				want = v & 0x888
			case 0xc01:
				want = ^v
			}
			if got != want {
				t.Errorf("C3: with mip %#x and time %#x Read(%#x) is %#x, want %#x", v, ^v, num, got, want)
			}
		}
	}
}

// TestC3Fixed: what no Cpu changes.
func TestC3Fixed(t *testing.T) {
	for _, c := range someCpus(7, api.M, 3) {
		for n, want := range map[int]uint64{0x301: 0x8000000000101105, 0xf11: 0, 0xf12: 0, 0xf13: 1, 0xf14: 0, 0xf15: 0} {
			read(t, c, n, want)
		}
		for k := range 29 {
			read(t, c, 0x323+k, 0)
			read(t, c, 0xb03+k, 0)
			read(t, c, 0xc03+k, 0)
		}
	}
}

// TestC3Fields: each field is told by its own CSR.
func TestC3Fields(t *testing.T) {
	c := api.Cpu{
		Mode: api.M, Mstatus: 0x88, Mtvec: 0x101, Mie: 0x80, Mcounteren: 6, Mcountinhibit: 4, Menvcfg: 1,
		Mscratch: 11, Mepc: 12, Mcause: 13, Mtval: 14, Mcycle: 15, Minstret: 16,
	}
	for i := range 16 {
		c.Pmp.Cfg[i], c.Pmp.Addr[i] = uint8(i), uint64(100+i)
	}
	for n, want := range map[int]uint64{
		0x300: 0x88 | uxl, 0x304: 0x80, 0x305: 0x101, 0x306: 6, 0x30a: 1, 0x320: 4, 0x340: 11, 0x341: 12, 0x342: 13, 0x343: 14,
		0x344: 0x888, 0x3a0: cfgBytes(0, 1, 0, 3, 4, 5, 4, 7), 0x3a2: cfgBytes(8, 9, 8, 11, 12, 13, 12, 15),
		0xb00: 15, 0xb02: 16, 0xc00: 15, 0xc01: 9, 0xc02: 16,
	} {
		read(t, c, n, want)
	}
	for i := range 16 {
		read(t, c, 0x3b0+i, uint64(100+i))
	}
}

// cfgBytes is a pmpcfg register of these bytes, the lowest first.
func cfgBytes(b ...uint64) uint64 {
	v := uint64(0)
	for k := range b {
		v |= b[k] << (8 * k)
	}
	return v
}
