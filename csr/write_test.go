package csr_test

import (
	"testing"

	"anvil/api"
	"anvil/csr"
)

// TestC4Machine: every number in M with 0, all bits 1 and each bit alone.
func TestC4Machine(t *testing.T) {
	t.Parallel()
	c := anyCpu(random(8), api.M)
	for _, num := range numbers() {
		for _, v := range values() {
			writesAsModel(t, c, num, v)
		}
	}
}

// TestC4Behind: what is read behind a write of the same values to every CSR that is there, of more Cpus.
func TestC4Behind(t *testing.T) {
	t.Parallel()
	for _, c := range someCpus(18, api.M, 2) {
		for _, num := range theCsrs() {
			for _, v := range values() {
				d := writesAsModel(t, c, num, v)
				readsAsModel(t, d, ones, ones, num)
			}
		}
	}
}

// TestC4User: every number in U: no write is legal.
func TestC4User(t *testing.T) {
	t.Parallel()
	c := anyCpu(random(9), api.U)
	for _, num := range numbers() {
		for _, v := range values() {
			noWrite(t, c, num, v)
		}
	}
}

// TestC4Kept: of each CSR what is read behind a write of each bit alone, of all bits 1, and of 0, whatever was there.
func TestC4Kept(t *testing.T) {
	for _, one := range []struct {
		num          int
		kept, always uint64
	}{
		{0x300, 1<<3 | 1<<7 | 1<<17 | 1<<21, uxl}, {0x304, 0x888, 0}, {0x305, ones - 2, 0}, {0x306, 7, 0}, {0x30a, 1, 0}, {0x320, 5, 0},
		{0x340, ones, 0}, {0x341, ones - 1, 0}, {0x342, ones, 0}, {0x343, ones, 0}, {0xb00, ones, 0}, {0xb02, ones, 0},
	} {
		for _, was := range []uint64{0, ones} {
			c := write(t, api.Cpu{Mode: api.M}, one.num, was)
			for _, v := range values() {
				if one.num == 0x300 && v&0x1800 != 0 {
					continue // MPP has a test of its own
				}
				read(t, write(t, c, one.num, v), one.num, v&one.kept|one.always)
			}
		}
	}
}

// TestC4Mpp: an MPP of 1 or 2 is not taken: 0 and 3 stay what they were; all else is taken.
func TestC4Mpp(t *testing.T) {
	for _, was := range []uint64{0, 0x1800} {
		for mpp := range uint64(4) {
			for _, rest := range []uint64{0, ones &^ 0x1800} {
				c := api.Cpu{Mode: api.M, Mstatus: was | 0x88}
				want := was
				if mpp == 0 || mpp == 3 {
					want = mpp << 11
				}
				d := write(t, c, 0x300, mpp<<11|rest)
				same(t, "a write of mstatus", d, api.Cpu{Mode: api.M, Mstatus: want | rest&0x220088 | uxl})
			}
		}
	}
}

// TestC4Nothing: writes that are legal and keep nothing.
func TestC4Nothing(t *testing.T) {
	lost := []int{0x301, 0x344}
	lost = append(append(lost, span(0x323, 0x33f)...), span(0xb03, 0xb1f)...)
	for _, c := range someCpus(10, api.M, 4) {
		for _, num := range lost {
			for _, v := range values() {
				same(t, "a write that keeps nothing", write(t, c, num, v), modelProper(c))
			}
		}
	}
}

// TestC4ReadOnly: CSRs that are there, and take no write in M either.
func TestC4ReadOnly(t *testing.T) {
	only := append(span(0xf11, 0xf15), span(0xc00, 0xc1f)...)
	for _, c := range someCpus(11, api.M, 2) {
		for _, num := range only {
			if _, legal := csr.Read(c, 0, 0, num); !legal {
				t.Errorf("C3: Read(%#x) is refused in M", num)
			}
			for _, v := range values() {
				noWrite(t, c, num, v)
			}
		}
	}
}

// TestC4None: numbers between those that are there.
func TestC4None(t *testing.T) {
	none := []int{
		0x302, 0x303, 0x307, 0x309, 0x30b, 0x310, 0x31f, 0x321, 0x322, 0x345, 0x34a, 0x39f, 0x3a1, 0x3a3, 0x3af, 0x3c0, 0xb01, 0xb20, 0xb80,
		0xc20, 0xc80, 0xf10, 0xf16, 0, 1, 0x100, 0x105, 0x180, 0x200, 0x2ff, 0x400, 0x7a0, 0x7b0, 0xaff, 0xbff, 0xfff,
	}
	for _, mode := range []int{api.U, api.M} {
		c := api.Cpu{Mode: mode, Mcounteren: ones}
		for _, num := range none {
			noRead(t, c, num)
			noWrite(t, c, num, ones)
		}
	}
}

// TestC4Addr: each pmpaddr is its entry's alone.
func TestC4Addr(t *testing.T) {
	for i := range 16 {
		for _, v := range values() {
			want := api.Cpu{Mode: api.M, Mstatus: uxl}
			want.Pmp.Addr[i] = v & (1<<54 - 1)
			same(t, "a write of a pmpaddr", write(t, api.Cpu{Mode: api.M}, 0x3b0+i, v), want)
		}
	}
}

// TestC4Cfg: each byte of a pmpcfg is its entry's; W without R is not kept.
func TestC4Cfg(t *testing.T) {
	for i := range 16 {
		for b := range 256 {
			want := api.Cpu{Mode: api.M, Mstatus: uxl}
			want.Pmp.Cfg[i] = uint8(b) & 0x9f
			if b&3 == 2 {
				want.Pmp.Cfg[i] &^= 2
			}
			num := 0x3a0 + i/8*2
			d := write(t, api.Cpu{Mode: api.M}, num, uint64(b)<<(i%8*8))
			same(t, "a write of a pmpcfg", d, want)
			read(t, d, num, uint64(want.Pmp.Cfg[i])<<(i%8*8))
			read(t, d, 0x3a2-i/8*2, 0)
		}
	}
}

// TestC4Locked: a locked entry takes no write, by the locks as they were ahead of it; one whose successor is locked and TOR keeps its address.
func TestC4Locked(t *testing.T) {
	for i := range 16 {
		for _, kind := range []uint8{0, 1, 2, 3} {
			c := api.Cpu{Mode: api.M, Mstatus: uxl}
			for k := range 16 {
				c.Pmp.Addr[k] = uint64(50 + k)
			}
			c.Pmp.Cfg[i] = 0x80 | kind<<3
			for k := range 16 {
				want := c
				if k != i && (k != i-1 || kind != 1) {
					want.Pmp.Addr[k] = 7
				}
				same(t, "a write of an address near a lock", write(t, c, 0x3b0+k, 7), want)
			}
			for _, v := range []uint64{0, ones, cfgBytes(0x1f, 2, 0x0f, 0x8f, 0x11, 0, 0xff, 6)} {
				want := c
				for k := range 8 {
					if at := i/8*8 + k; at != i {
						want.Pmp.Cfg[at] = modelCfg(uint8(v >> (8 * k)))
					}
				}
				same(t, "a write of rights near a lock", write(t, c, 0x3a0+i/8*2, v), want)
			}
		}
	}
}

// TestC4LockOnce: one write locks; the next one is legal, and changes nothing.
func TestC4LockOnce(t *testing.T) {
	c := api.Cpu{Mode: api.M}
	c = write(t, c, 0x3b1, 0x20)
	c = write(t, c, 0x3a0, 0x8f8f)
	for _, num := range []int{0x3b0, 0x3b1} {
		same(t, "a write of a locked address", write(t, c, num, 5), c)
	}
	same(t, "a write of locked rights", write(t, c, 0x3a0, 0), c)
	c = write(t, c, 0x3a0, 0x1f0000)
	read(t, c, 0x3a0, 0x1f8f8f)
	read(t, write(t, c, 0x3b2, 5), 0x3b2, 5)
}
