package pmp_test

import (
	"math"
	"testing"

	"anvil/api"
	"anvil/pmp"
)

// all is the same Cfg and Addr in every entry.
func all(cfg uint8, addr uint64) api.Pmp {
	var p api.Pmp
	for i := range p.Cfg {
		p.Cfg[i], p.Addr[i] = cfg, addr
	}
	return p
}

func TestG1Proper(t *testing.T) {
	for i := range 16 {
		for cfg := range 256 {
			want := uint8(cfg) & 0x9f
			if cfg%4 == 2 {
				want -= 2
			}
			same(t, "Proper", pmp.Proper(at(i, uint8(cfg), 0)), at(i, want, 0))
		}
		for n := range 64 {
			want := uint64(1) << n
			if n >= 54 {
				want = 0
			}
			same(t, "Proper", pmp.Proper(at(i, 0, 1<<n)), at(i, 0, want))
		}
	}
	same(t, "Proper of all ones", pmp.Proper(all(0xff, last)), all(0x9f, 1<<54-1))
	same(t, "Proper of none", pmp.Proper(api.Pmp{}), api.Pmp{})
}

func TestG1LocksDoNotCount(t *testing.T) {
	same(t, "Proper of a locked entry", pmp.Proper(all(0xe2, last)), all(0x80, 1<<54-1))
	same(t, "Proper of a locked TOR entry", pmp.Proper(list(0x62, last, 0xea, 1<<63|5)), list(0, 1<<54-1, 0x88, 5))
}

func TestG1Twice(t *testing.T) {
	r := random(11)
	for range 10_000 {
		p := pmp.Proper(anyBits(r))
		same(t, "Proper of what is proper", pmp.Proper(p), p)
	}
}

// TestG1First: each function does with any bits what it does with the proper ones.
func TestG1First(t *testing.T) {
	r := random(12)
	for range 20_000 {
		p := some(r)
		q := pmp.Proper(p)
		o, n := anyOrder(r), r.IntN(18)-1
		same(t, "a write to entries made proper", o.do(p), o.do(q))
		same(t, "Proper of what a write answers", pmp.Proper(o.do(p)), o.do(p))
		if pmp.Cfg(p, n) != pmp.Cfg(q, n) {
			t.Fatalf("G1: Cfg(%x, %d) is another of the proper entries", p, n)
		}
		a, b := pmp.Locked(p, n)
		if c, d := pmp.Locked(q, n); a != c || b != d {
			t.Fatalf("G1: Locked(%x, %d) is another of the proper entries", p, n)
		}
		first, end, ok := pmp.Span(p, n)
		if f, e, k := pmp.Span(q, n); first != f || end != e || ok != k {
			t.Fatalf("G1: Span(%x, %d) is another of the proper entries", p, n)
		}
		addr, size, bits := place(r, p), anySize(r), anyRights(r)
		i, whole := pmp.Match(p, addr, size)
		if j, w := pmp.Match(q, addr, size); i != j || whole != w {
			t.Fatalf("G1: Match(%x, %#x, %d) is another of the proper entries", p, addr, size)
		}
		if mode := anyMode(r); pmp.Check(p, mode, addr, size, bits) != pmp.Check(q, mode, addr, size, bits) {
			t.Fatalf("G1: Check(%x, %d, %#x, %d, %d) is another of the proper entries", p, mode, addr, size, bits)
		}
		if pmp.Granted(p, addr, bits) != pmp.Granted(q, addr, bits) {
			t.Fatalf("G1: Granted(%x, %#x, %d) is another of the proper entries", p, addr, bits)
		}
	}
}

// TestG1Bits: bits that cannot be mean nothing.
func TestG1Bits(t *testing.T) {
	if v := pmp.Cfg(at(1, 0xff, 0), 0); v != 0x9f00 {
		t.Errorf("G1: Cfg tells bits that cannot be: %#x", v)
	}
	if first, end, ok := pmp.Span(at(3, 0x11, 1<<54|1), 3); first != 4 || end != 7 || !ok {
		t.Errorf("G1: Span of an Addr with bit 54 is %#x, %#x, %v", first, end, ok)
	}
	if first, end, ok := pmp.Span(list(0, 1<<60|4, 0x09, 8), 1); first != 16 || end != 31 || !ok {
		t.Errorf("G1: Span from an Addr with bit 60 is %#x, %#x, %v", first, end, ok)
	}
	p := at(0, 0x1e, 0)
	if pmp.Check(p, api.U, 0, 8, api.W) || pmp.Granted(p, 0, api.W) {
		t.Errorf("G1: W without R is a right")
	}
	if !pmp.Check(p, api.U, 0, 8, api.X) || !pmp.Granted(p, 0, api.X) {
		t.Errorf("G1: W without R takes X away")
	}
}

// steps is entries whose Cfg bytes are all proper and all different.
func steps() api.Pmp {
	var p api.Pmp
	for i := range p.Cfg {
		p.Cfg[i], p.Addr[i] = []uint8{0, 1, 4, 5}[i%4]|uint8(i/4)<<3, uint64(i)*5+1
	}
	return p
}

func TestG2Cfg(t *testing.T) {
	want := map[int]uint64{0: 0x0d0c090805040100, 2: 0x1d1c191815141110}
	for reg := -3; reg <= 20; reg++ {
		if v := pmp.Cfg(steps(), reg); v != want[reg] {
			t.Errorf("G2: Cfg(steps, %d) = %#x, want %#x", reg, v, want[reg])
		}
	}
	for _, reg := range far {
		if v := pmp.Cfg(all(0x9f, 1), reg); v != 0 {
			t.Errorf("G2: Cfg(.., %d) = %#x, want 0", reg, v)
		}
	}
	for k := range 8 {
		if v := pmp.Cfg(at(k, 0x9f, 7), 0); v != 0x9f<<(8*k) {
			t.Errorf("G2: byte %d of register 0: %#x", k, v)
		}
		if v := pmp.Cfg(at(8+k, 0x9f, 7), 2); v != 0x9f<<(8*k) {
			t.Errorf("G2: byte %d of register 2: %#x", k, v)
		}
	}
}

func locked(t *testing.T, p api.Pmp, i int, cfg, addr bool) {
	t.Helper()
	if a, b := pmp.Locked(p, i); a != cfg || b != addr {
		t.Errorf("G3: Locked(%x, %d) = %v, %v, want %v, %v", p, i, a, b, cfg, addr)
	}
}

func TestG3Locked(t *testing.T) {
	for i := range 16 {
		for cfg := range 256 {
			p := at(i, uint8(cfg), 9)
			own, tor := cfg >= 0x80, cfg&0x18 == 0x08
			for j := range 16 {
				locked(t, p, j, own && j == i, own && (j == i || tor && j == i-1))
			}
		}
	}
}

func TestG3NoEntry(t *testing.T) {
	for _, p := range []api.Pmp{{}, all(0x0f, 3), all(0x8f, 3)} {
		for _, i := range append([]int{-2, -1, 16, 17}, far...) {
			locked(t, p, i, true, true)
		}
	}
}

func TestG3Empty(t *testing.T) {
	p := list(0, 4, 0x88, 4)
	locked(t, p, 0, false, true)
	locked(t, list(0, 5, 0x88, 4), 0, false, true)
	locked(t, at(15, 0x88, 0), 14, false, true)
	locked(t, at(0, 0x88, 0), 15, false, false)
}

func TestG4SetCfg(t *testing.T) {
	const v = 0x9f_18_11_0f_06_02_ff_60
	want := []uint8{0, 0x9f, 0, 4, 0x0f, 0x11, 0x18, 0x9f}
	for _, reg := range []int{0, 2} {
		p := steps()
		q := p
		copy(q.Cfg[4*reg:], want)
		same(t, "SetCfg", pmp.SetCfg(p, reg, v), q)
	}
}

// TestG4Bytes: every byte at every place, over open entries and over locked ones.
func TestG4Bytes(t *testing.T) {
	for i := range 16 {
		for cfg := range 256 {
			reg, v := i/8*2, uint64(cfg)<<(i%8*8)
			same(t, "SetCfg", pmp.SetCfg(all(0, 3), reg, v), modelProper(set(all(0, 3), i, uint8(cfg))))
			same(t, "SetCfg of a locked entry", pmp.SetCfg(at(i, 0x9b, 3), reg, v), at(i, 0x9b, 3))
		}
	}
}

func set(p api.Pmp, i int, cfg uint8) api.Pmp {
	p.Cfg[i] = cfg
	return p
}

func TestG4OtherRegisters(t *testing.T) {
	for _, reg := range append([]int{-2, -1, 1, 3, 4, 8, 15, 16}, far...) {
		same(t, "SetCfg of another register", pmp.SetCfg(steps(), reg, last), steps())
		same(t, "SetCfg of another register, of any bits", pmp.SetCfg(all(0xff, last), reg, 0), all(0x9f, 1<<54-1))
	}
}

// TestG4Locks: a write that locks an entry and its neighbours in one takes for all of them, by the locks as they were.
func TestG4Locks(t *testing.T) {
	p := pmp.SetCfg(all(0, 5), 0, 0x8f8f8f8f8f8f8f8f)
	want := all(0, 5)
	for i := range 8 {
		want.Cfg[i] = 0x8f
	}
	same(t, "SetCfg that locks eight", p, want)
	same(t, "SetCfg behind it", pmp.SetCfg(p, 0, 0), want)
	same(t, "SetCfg of the others", pmp.SetCfg(p, 2, 0x1b), set(want, 8, 0x1b))

	p = pmp.SetCfg(list(0x01, 1, 0x81, 2, 0x01, 3, 0x89, 4), 0, 0x0f_0f_8f_8f)
	same(t, "SetCfg between locked ones", p, list(0x8f, 1, 0x81, 2, 0x0f, 3, 0x89, 4))
}

func TestG5SetAddr(t *testing.T) {
	for i := range 16 {
		for _, v := range []uint64{0, 1, 1<<54 - 1, 1 << 54, 1<<54 | 6, last} {
			p := steps()
			p.Addr[i] = v % (1 << 54)
			same(t, "SetAddr", pmp.SetAddr(steps(), i, v), p)
		}
	}
	for _, i := range append([]int{-2, -1, 16, 17}, far...) {
		same(t, "SetAddr of no entry", pmp.SetAddr(steps(), i, 99), steps())
		same(t, "SetAddr of no entry, of any bits", pmp.SetAddr(all(0xff, last), i, 99), all(0x9f, 1<<54-1))
	}
}

func TestG5Locks(t *testing.T) {
	for i := range 16 {
		for _, cfg := range []uint8{0x00, 0x08, 0x10, 0x18, 0x80, 0x88, 0x90, 0x98} {
			p := at(i, cfg, 40)
			for j := range 16 {
				want := p
				if (cfg < 0x80 || j != i) && (cfg != 0x88 || j != i-1) {
					want.Addr[j] = 77
				}
				same(t, "SetAddr", pmp.SetAddr(p, j, 77), want)
			}
		}
	}
}

func TestG10Locks(t *testing.T) {
	for seed := range uint64(300) {
		r := random(100 + seed)
		p := pmp.Proper(some(r))
		for range 60 {
			was := p
			p = anyOrder(r).do(p)
			stays(t, was, p)
		}
	}
}

// stays: what is locked in one is the same in the other.
func stays(t *testing.T, was, is api.Pmp) {
	t.Helper()
	for i := range 16 {
		if was.Cfg[i] < 0x80 {
			continue
		}
		if is.Cfg[i] != was.Cfg[i] || is.Addr[i] != was.Addr[i] {
			t.Fatalf("G10: locked entry %d of\n%x came to be\n%x", i, was, is)
		}
		if i > 0 && was.Cfg[i]&0x18 == 0x08 && is.Addr[i-1] != was.Addr[i-1] {
			t.Fatalf("G10: the Addr ahead of locked entry %d of\n%x came to be\n%x", i, was, is)
		}
	}
}

// TestG10Whole: from the first write to the last of a long list.
func TestG10Whole(t *testing.T) {
	for seed := range uint64(40) {
		r := random(500 + seed)
		first := pmp.Proper(crowd(r))
		p := first
		for range 2000 {
			p = anyOrder(r).do(p)
		}
		stays(t, first, p)
		same(t, "Proper behind the list", pmp.Proper(p), p)
	}
}

// TestG10Answers: what is told of an access whose entry is locked stays, as long as no lower entry comes to have any of its bytes.
func TestG10Answers(t *testing.T) {
	kept := 0
	for seed := range uint64(2000) {
		r := random(1000 + seed)
		p := pmp.Proper(crowd(r))
		addr, size, bits, mode := place(r, p), anySize(r), anyRights(r), anyMode(r)
		i, whole := pmp.Match(p, addr, size)
		if i < 0 || p.Cfg[i] < 0x80 {
			continue
		}
		ok := pmp.Check(p, mode, addr, size, bits)
		for range 30 {
			p = anyOrder(r).do(p)
			if lower, _ := pmp.Match(below(p, i), addr, size); lower >= 0 {
				break
			}
			kept++
			if j, w := pmp.Match(p, addr, size); j != i || w != whole {
				t.Fatalf("G10: Match(%x, %#x, %d) was %d, %v, is %d, %v", p, addr, size, i, whole, j, w)
			}
			if is := pmp.Check(p, mode, addr, size, bits); is != ok {
				t.Fatalf("G10: Check(%x, %d, %#x, %d, %d) was %v, is %v", p, mode, addr, size, bits, ok, is)
			}
		}
	}
	if kept < 500 {
		t.Errorf("only %d answers were compared: the test has grown idle", kept)
	}
}

// below is the entries below one alone.
func below(p api.Pmp, i int) api.Pmp {
	for j := i; j < 16; j++ {
		p.Cfg[j] = 0
	}
	return p
}

// TestRule1Pmp: no call panics or goes on for ever, whatever it is given.
func TestRule1Pmp(t *testing.T) {
	r := random(13)
	for range 200 {
		p := anyBits(r)
		for _, n := range append([]int{-1, 0, 15, 16, math.MaxInt - 1}, far...) {
			for _, m := range append([]int{-1, 0, 1, 8, 9}, far...) {
				pmp.Cfg(p, n)
				pmp.SetCfg(p, n, last)
				pmp.SetAddr(p, n, last)
				pmp.Locked(p, n)
				pmp.Span(p, n)
				pmp.Match(p, r.Uint64(), n)
				pmp.Check(p, n, r.Uint64(), m, m)
				pmp.Granted(p, r.Uint64(), n)
			}
		}
	}
}
