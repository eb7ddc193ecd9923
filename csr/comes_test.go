package csr_test

import (
	"math/rand/v2"
	"testing"

	"anvil/api"
	"anvil/csr"
)

// someCsr is the number of one that is there; each row of the table is as likely as another.
func someCsr(r *rand.Rand) int {
	one := table[r.IntN(len(table))]
	return one.first + r.IntN(one.last-one.first+1)
}

// What the bus tells in readings.
const (
	busMip  = 0x880
	busTime = 77
)

// readings is what every CSR tells, by number.
func readings(t *testing.T, c api.Cpu) map[int]uint64 {
	t.Helper()
	all := map[int]uint64{}
	for _, num := range theCsrs() {
		v, legal := csr.Read(c, busMip, busTime, num)
		if !legal {
			t.Fatalf("C3: Read(%#x) is refused in M", num)
		}
		all[num] = v
	}
	return all
}

// otherNames is the CSRs that are another name of one.
func otherNames(num int) int {
	switch num {
	case 0xb00:
		return 0xc00
	case 0xb02:
		return 0xc02
	}
	return num
}

// TestC6Others: a write changes what is told of its own CSR and of that one's other names alone; done once more it changes nothing; and so does writing what is read.
func TestC6Others(t *testing.T) {
	t.Parallel()
	r := random(13)
	for _, c := range someCpus(14, api.M, 1) {
		ahead := readings(t, c)
		for _, num := range theCsrs() {
			for _, v := range []uint64{0, ones, r.Uint64(), 0x8888888888888888} {
				d, legal := csr.Write(c, num, v)
				if !legal {
					continue
				}
				same(t, "a write that is done twice", write(t, d, num, v), d)
				behind := readings(t, d)
				same(t, "a write of what is read", write(t, d, num, behind[num]), d)
				for _, other := range theCsrs() {
					if other != num && other != otherNames(num) && ahead[other] != behind[other] {
						t.Errorf("C6: Write(%#x, %#x) changes %#x from %#x to %#x", num, v, other, ahead[other], behind[other])
					}
				}
				if other := otherNames(num); behind[other] != behind[num] {
					t.Errorf("C6: %#x is %#x, but its other name %#x is %#x", num, behind[num], other, behind[other])
				}
			}
		}
	}
}

// TestC7Told: a Cpu's CSRs and entries can be made again of what is read.
func TestC7Told(t *testing.T) {
	t.Parallel()
	r := random(15)
	for range 200 {
		c := csr.Proper(anyCpu(r, api.M))
		all := readings(t, c)
		d := api.Cpu{
			Pc: c.Pc, X: c.X, Mode: c.Mode, Waiting: c.Waiting, Res: c.Res,
			Mstatus: all[0x300], Mtvec: all[0x305], Mie: all[0x304], Mcounteren: all[0x306], Mcountinhibit: all[0x320], Menvcfg: all[0x30a],
			Mscratch: all[0x340], Mepc: all[0x341], Mcause: all[0x342], Mtval: all[0x343], Mcycle: all[0xb00], Minstret: all[0xb02],
		}
		for i := range 16 {
			d.Pmp.Cfg[i] = uint8(all[0x3a0+i/8*2] >> (i % 8 * 8))
			d.Pmp.Addr[i] = all[0x3b0+i]
		}
		same(t, "the Cpu of what is read", d, c)
	}
}

// flips is Cpus of which each differs from c in one kept bit of a CSR or an entry (in MPP: in both of its bits), as long as such a Cpu can be.
func flips(c api.Cpu) []api.Cpu {
	var all []api.Cpu
	add := func(d api.Cpu) {
		if isProper(d) {
			all = append(all, d)
		}
	}
	d := c
	d.Mstatus ^= 0x1800
	add(d)
	for n := range 64 {
		for _, f := range csrFields() {
			d := c
			*f.of(&d) ^= 1 << n
			add(d)
		}
		for i := range 16 {
			d := c
			d.Pmp.Addr[i] ^= 1 << n
			add(d)
		}
	}
	for i := range 16 {
		for n := range 8 {
			d := c
			d.Pmp.Cfg[i] ^= 1 << n
			add(d)
		}
	}
	return all
}

// TestC7Bits: two Cpus of which one kept bit differs are told apart by a Read.
func TestC7Bits(t *testing.T) {
	t.Parallel()
	c := csr.Proper(anyCpu(random(16), api.M))
	all := flips(c)
	if len(all) < 1400 {
		t.Errorf("only %d bits are kept: the test has grown idle", len(all))
	}
	ahead := readings(t, c)
	for _, d := range all {
		if !toldApart(d, ahead) {
			t.Errorf("C7: no Read tells apart\n%+v\n%+v", c, d)
		}
	}
}

// toldApart tells whether a Read of c is another than that of the readings.
func toldApart(c api.Cpu, all map[int]uint64) bool {
	for _, num := range theCsrs() {
		if v, _ := csr.Read(c, busMip, busTime, num); v != all[num] {
			return true
		}
	}
	return false
}

// TestC8User: what is read in U, by every value of Mcounteren's low bits; nothing is written.
func TestC8User(t *testing.T) {
	t.Parallel()
	for low := range uint64(8) {
		c := api.Cpu{Mcounteren: low, Mcycle: 21, Minstret: 23, Mscratch: 5}
		for _, num := range numbers() {
			noWrite(t, c, num, ones)
			if num >= 0xc00 && num <= 0xc02 && low>>(num-0xc00)&1 == 1 {
				read(t, c, num, [3]uint64{21, 9, 23}[num-0xc00])
			} else {
				noRead(t, c, num)
			}
		}
	}
}

// TestC9Rows: long rows of writes in M: each does what it does by itself; the Cpu stays proper; what is no CSR stays, and so does what is locked.
func TestC9Rows(t *testing.T) {
	t.Parallel()
	r := random(17)
	for range 60 {
		c := csr.Proper(anyCpu(r, api.M))
		first := c
		for range 300 {
			num := someCsr(r)
			if r.IntN(10) == 0 {
				num = r.IntN(4300) - 100
			}
			v := anyWord(r)
			if num == 0x3a0 || num == 0x3a2 {
				v &^= r.Uint64() & 0x8080808080808080
			}
			d := writesAsModel(t, c, num, v)
			if !isProper(d) {
				t.Fatalf("C9: Write(%+v, %#x, %#x) is not proper:\n%+v", c, num, v, d)
			}
			c = d
		}
		if c.X != first.X || c.Pc != first.Pc || c.Mode != first.Mode || c.Waiting != first.Waiting || c.Res != first.Res {
			t.Errorf("C9: writes make of\n%+v\n%+v", first, c)
		}
		lockedStays(t, first, c)
	}
}

// lockedStays: what was locked in one Cpu is the same in the other.
func lockedStays(t *testing.T, first, c api.Cpu) {
	t.Helper()
	for i, cfg := range first.Pmp.Cfg {
		if cfg < 0x80 {
			continue
		}
		if c.Pmp.Cfg[i] != cfg || c.Pmp.Addr[i] != first.Pmp.Addr[i] {
			t.Errorf("C9: entry %d is locked, and has changed", i)
		}
		if cfg&0x18 == 0x08 && i > 0 && c.Pmp.Addr[i-1] != first.Pmp.Addr[i-1] {
			t.Errorf("C9: the address ahead of entry %d, locked and TOR, has changed", i)
		}
	}
}
