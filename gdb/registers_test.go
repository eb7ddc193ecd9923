package gdb_test

import (
	"fmt"
	"strings"
	"testing"

	"anvil/api"
	"anvil/csr"
	"anvil/gdb"
)

// filled is a deck with something of its own in each register and CSR, in this mode.
func filled(mode int) api.Deck {
	d := bare(64)
	for i := range 31 {
		d.Cpu.X[i+1] = 0x0102030405060708 * uint64(i+1)
	}
	d.Cpu.Pc, d.Cpu.Mode, d.Mtime = 0x8877665544332210, mode, 0xf0e0d0c0b0a09080
	c := &d.Cpu
	c.Mstatus, c.Mtvec, c.Mie, c.Mcounteren, c.Mcountinhibit, c.Menvcfg = uxl|0x201880, 0x1122334455667789, 0x808, 2, 4, 1
	c.Mscratch, c.Mepc, c.Mcause = 0x1112131415161718, 0x2122232425262728, 0x3132333435363738
	c.Mtval, c.Mcycle, c.Minstret = 0x4142434445464748, 0x5152535455565758, 0x6162636465666768
	for i := range 16 {
		c.Pmp.Cfg[i], c.Pmp.Addr[i] = uint8(i*8&0x18|i/4*4|1), 0x0021222324252600+uint64(i)
	}
	c.Pmp.Cfg[15] = 0x9f
	c.Res = api.Res{Valid: true, Addr: 0x7172737475767778, Size: 8}
	c.Waiting = true
	return d
}

// TestSection17_3All: g tells all registers, lowest byte first.
func TestSection17_3All(t *testing.T) {
	for _, mode := range []int{api.M, api.U} {
		s := made(t, filled(mode))
		want := strings.Repeat("0", 16)
		for i := range 31 {
			want += word(0x0102030405060708 * uint64(i+1))
		}
		asked(t, s, want+"1022334455667788", "g")
	}
	asked(t, made(t, bare(8)), strings.Repeat("0", 32*16)+"0000008000000000", "g")
}

// numbered is 33 registers' digits, each with something of its own.
func numbered() string {
	all := ""
	for i := range 33 {
		all += word(0xfedcba9876543210 - uint64(i)*0x0101010101010101)
	}
	return all
}

// TestSection17_3SetAll: G sets x1 to x31 and pc, made even, and nothing else: x0 stays 0.
func TestSection17_3SetAll(t *testing.T) {
	for _, mode := range []int{api.M, api.U} {
		for _, digits := range []string{numbered(), strings.ToUpper(numbered()), strings.Repeat("f", 528), strings.Repeat("0", 528), strings.Repeat("aB", 264)} {
			s := made(t, filled(mode))
			want := s.Whole()
			for i := range 31 {
				want.Cpu.X[i+1] = value(digits[16*(i+1) : 16*(i+2)])
			}
			want.Cpu.Pc = value(digits[512:]) &^ 1
			ask(t, s, "G"+digits, "OK")
			holds(t, "17.3: G", s, want, 0)
		}
	}
	s := made(t, filled(api.M))
	n := numbered()
	asked(t, s, "E01", "G"+n[1:], "G"+n[2:], "G"+n[16:], "G"+n+"0", "G"+n+"00", "G"+n+n[:16], "G"+n[:527]+"g", "Gx"+n[1:], "G"+n[:100]+" "+n[101:], "G "+n, "G,"+n, "G"+n[:15]+"\x00"+n[16:], "G00", "G0")
}

// TestSection17_3Register: the numbers of registers: to 31, 32, and the CSRs from 65 on.
func TestSection17_3Register(t *testing.T) {
	for _, mode := range []int{api.M, api.U} {
		s := made(t, filled(mode))
		w := s.Whole()
		seen := w.Cpu
		seen.Mode = api.M
		there := 0
		for n := range 65 + 4096 + 300 {
			want := "E02"
			switch v, is := csr.Read(seen, mip(w.Bus), w.Bus.Mtime, n-65); {
			case n < 32:
				want = word(w.Cpu.X[n])
			case n == 32:
				want = word(w.Cpu.Pc)
			case n >= 65 && is:
				want = word(v)
				there++
			}
			ask(t, s, fmt.Sprintf("p%x", n), want)
		}
		holds(t, "17.3: p", s, w, 0)
		if there != 127 {
			t.Errorf("%d CSRs are there", there)
		}
		asked(t, s, "E02", "p21", "p40", "p1041", "p10041", "p100000041", "p1000000000000041", "pffffffffffffffff", "pffffffffffffffbf", "pffffffffffffffe0")
		asked(t, s, word(1), "pf54")
		asked(t, s, word(0x8000000000101105), "p342")
		asked(t, s, word(0xf0e0d0c0b0a09080), "pc42")
		asked(t, s, word(0x5152535455565758), "pb41", "pc41")
	}
}

// TestSection17_3Mip: mip is what the bus has now: by each of its lines, and what is written to it is lost.
func TestSection17_3Mip(t *testing.T) {
	lines := []string{"sw a0, 0(s0)", "sd a1, 0(s1)", "sb a0, 1(s2)", "1: j 1b"} // msip, mtimecmp, the console's interrupts
	d := sourced(t, 64, lines...)
	d.Cpu.X[8], d.Cpu.X[9], d.Cpu.X[18], d.Cpu.X[10], d.Cpu.X[11] = msip, mtimecmp, console, 1, 7
	d.Worlds = []api.World{{}, {}, {}, {Input: []byte("x")}, {Soft: true}, {Ext: true}, {Tick: true}}
	d.Mtime = 6
	s := made(t, d)
	ask(t, s, "p385", word(0))
	for i, want := range []uint64{8, 8, 8, 0x808, 0x808, 0x808, 0x888} {
		ask(t, s, "s", "S05")
		if w := s.Whole().Bus; mip(w) != want {
			t.Errorf("behind %d steps mip is %#x", i+1, mip(w))
		}
		asked(t, s, word(want), "p385")
		asked(t, s, "OK", "P385="+word(ones))
	}
	asked(t, s, word(7), "pc42")
	asked(t, s, "E02", "Pc42="+word(1))
	d.Cpu.X[10] = 0
	d.Worlds = []api.World{{Soft: true}, {Ext: true}, {Ext: true, Soft: true}}
	s = made(t, d)
	for _, want := range []uint64{8, 0x800, 0x808, 0} {
		ask(t, s, "s", "S05")
		asked(t, s, word(want), "p385")
	}
}

// TestSection17_3SetRegister: P sets one thing and nothing else; a CSR as M writes it, whatever mode the hart is in.
func TestSection17_3SetRegister(t *testing.T) {
	set, not := 0, 0
	for _, mode := range []int{api.M, api.U} {
		for _, v := range []uint64{0, ones, 0x1122334455667788, 0x8818} {
			for n := range 65 + 4096 + 2 {
				if n > 40 && n < 65+0x300 || n > 65+0x344 && n < 65+0x3a0 || n > 65+0x3c0 && n < 65+0xb00 || n > 65+0xc20 && n < 65+0xf10 {
					continue
				}
				s := made(t, filled(mode))
				want, answer := s.Whole(), "OK"
				switch c := &want.Cpu; {
				case n == 0:
				case n < 32:
					c.X[n] = v
				case n == 32:
					c.Pc = v &^ 1
				default:
					seen := *c
					seen.Mode = api.M
					written, is := csr.Write(seen, n-65, v)
					if !is {
						answer = "E02"
						break
					}
					written.Mode = c.Mode
					*c = written
				}
				ask(t, s, fmt.Sprintf("P%X=%s", n, word(v)), answer)
				holds(t, fmt.Sprintf("17.3: P%x=%s", n, word(v)), s, want, 0)
				if answer == "OK" {
					set++
				} else {
					not++
				}
			}
		}
	}
	if set < 900 || not < 4000 {
		t.Errorf("%d set, %d not: too few to tell", set, not)
	}
}

// TestSection17_3SetRegisterForm: the form of P, which is told ahead of what can't be done.
func TestSection17_3SetRegisterForm(t *testing.T) {
	s := made(t, filled(api.M))
	v := word(5)
	asked(t, s, "E02", "P21="+v, "P40="+v, "P1041="+v, "Pffffffffffffffff="+v, "Pf52="+v, "Pc41="+v, "Pc42="+v, "Pc43="+v, "P141="+v, "P3e2="+v)
	asked(t, s, "OK", "P0="+v, "P0000000000000000="+v, "P342="+v, "P385="+v, "P364="+v)
	asked(t, s, "E01", "P", "P=", "Pa", "Pa=", "P="+v, "Pa"+v, "Pa=5", "Pa=05", "Pa="+v[1:], "Pa="+v+"0", "Pa="+v+"00", "Pa="+v+v, "Pa=="+v, "Pa= "+v, "Pa ="+v, "Pg="+v, "P21=05", "Pf52=x", "Pa="+v[1:]+"g", "Pa=+"+v[1:], "P00000000000000000="+v, "P0000000000000000a="+v, "Pa:"+v, "Pa,"+v, "Pa="+v[1:]+"\x00", "P1=2="+v)
	ask(t, s, "P00A=aBCDEF0123456789", "OK")
	asked(t, s, "abcdef0123456789", "pa")
	ask(t, s, "P20="+word(0x80000003), "OK")
	asked(t, s, word(0x80000002), "p20")
}

// TestSection17_3Locks: a locked entry takes no write of the debugger's either, which is none that csr.Write refuses.
func TestSection17_3Locks(t *testing.T) {
	d := bare(64)
	d.Cpu.Pmp.Cfg[1], d.Cpu.Pmp.Addr[0], d.Cpu.Pmp.Addr[1] = 0x89, 5, 9
	s := made(t, d)
	asked(t, s, "OK", "P3f1="+word(7), "P3f2="+word(7))
	ask(t, s, "P3e1="+word(0x0f0f), "OK")
	asked(t, s, word(0x890f), "p3e1")
	ask(t, s, "P3f3="+word(ones), "OK")
	asked(t, s, word(1<<54-1), "p3f3")
}

// run is what a stub answers to commands.
func run(s *gdb.Stub, commands ...string) string {
	all := ""
	for _, c := range commands {
		all += string(s.Feed([]byte(packet(c))))
	}
	return all
}

// TestSection17_3SetCounts: what P writes is what the next step counts from: it is no instruction that writes.
func TestSection17_3SetCounts(t *testing.T) {
	s := made(t, little())
	run(s, "Pb41="+word(ones), "Pb43="+word(9), "s")
	if c := s.Whole().Cpu; c.Mcycle != 0 || c.Minstret != 10 {
		t.Errorf("17.3: behind a step mcycle is %d, minstret %d", c.Mcycle, c.Minstret)
	}
}
