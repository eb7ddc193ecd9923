package pmp_test

import (
	"testing"

	"anvil/api"
	"anvil/pmp"
)

func check(t *testing.T, p api.Pmp, mode int, addr uint64, size, bits int, want bool) {
	t.Helper()
	if ok := pmp.Check(p, mode, addr, size, bits); ok != want {
		t.Errorf("G8: Check(%x, %d, %#x, %d, %d) = %v, want %v", p, mode, addr, size, bits, ok, want)
	}
}

// TestG8Rights: every Cfg's rights against every access's bits.
func TestG8Rights(t *testing.T) {
	for i := range 16 {
		for rights := range 8 {
			has := rights
			if rights&1 == 0 {
				has &= 4
			}
			for bits := 1; bits <= 7; bits++ {
				open, held := at(i, 0x18|uint8(rights), 0), at(i, 0x98|uint8(rights), 0)
				check(t, open, 0, 0, 8, bits, bits&^has == 0)
				check(t, open, 3, 0, 8, bits, true)
				check(t, held, 0, 0, 8, bits, bits&^has == 0)
				check(t, held, 3, 0, 8, bits, bits&^has == 0)
			}
		}
	}
}

func TestG8NoEntry(t *testing.T) {
	for _, p := range []api.Pmp{{}, all(0x87, 5), all(0x8f, 5), list(0x9f, 2)} {
		for bits := 1; bits <= 7; bits++ {
			for size := 1; size <= 8; size++ {
				check(t, p, api.M, 64, size, bits, true)
				check(t, p, api.U, 64, size, bits, false)
			}
		}
	}
}

func TestG8Part(t *testing.T) {
	for _, cfg := range []uint8{0x17, 0x97, 0x10, 0x90} {
		p := list(uint64(cfg), 4, 0x1f, 1<<54-1)
		for bits := 1; bits <= 7; bits++ {
			for _, mode := range []int{api.U, api.M} {
				check(t, p, mode, 12, 8, bits, false)
				check(t, p, mode, 18, 4, bits, false)
				check(t, p, mode, 13, 4, bits, false)
				check(t, p, mode, 12, 4, bits, true)
				check(t, p, mode, 20, 8, bits, true)
			}
		}
	}
}

func TestG8WrongInputs(t *testing.T) {
	for _, p := range []api.Pmp{{}, all(0x1f, 1<<54-1), all(0x9f, 1<<54-1)} {
		for _, mode := range append([]int{-3, -1, 1, 2, 4, 7}, far...) {
			check(t, p, mode, 0, 4, api.R, false)
		}
		for _, size := range append([]int{-4, -1, 0, 9, 16}, far...) {
			check(t, p, api.M, 0, size, api.R, false)
			check(t, p, api.U, 0, size, api.R, false)
		}
		for _, bits := range append([]int{-7, -1, 0, 8, 9, 15, 257}, far...) {
			check(t, p, api.M, 0, 4, bits, false)
			check(t, p, api.U, 0, 4, bits, false)
		}
	}
}

func TestG8Wraps(t *testing.T) {
	for _, mode := range []int{api.U, api.M} {
		check(t, list(0x1f, 1<<54-1), mode, last-3, 8, api.R, true)
		check(t, list(0x9c, 1<<54-1), mode, last-3, 8, api.R, false)
		check(t, list(0x17, 0), mode, last-3, 8, api.R, false)
		check(t, list(0x17, 0, 0x1f, 1<<54-1), mode, last-3, 8, api.R, false)
		check(t, list(0x17, 0, 0x1f, 1<<54-1), mode, last-3, 4, api.R, true)
	}
}

func granted(t *testing.T, p api.Pmp, addr uint64, bits int, want bool) {
	t.Helper()
	if ok := pmp.Granted(p, addr, bits); ok != want {
		t.Errorf("G9: Granted(%x, %#x, %d) = %v, want %v", p, addr, bits, ok, want)
	}
}

func TestG9Granted(t *testing.T) {
	for i := range 16 {
		for cfg := range 256 {
			p := at(i, uint8(cfg)|0x18, 0)
			has := cfg & 7
			if has&1 == 0 {
				has &= 4
			}
			for bits := -17; bits <= 17; bits++ {
				granted(t, p, 7, bits, has&bits != 0)
				granted(t, p, 8, bits, false)
			}
			for _, bits := range far {
				granted(t, p, 0, bits, has&bits != 0)
			}
		}
	}
}

func TestG9Lowest(t *testing.T) {
	p := list(0x10, 1, 0x19, 0, 0x1f, 1<<54-1)
	for addr := range uint64(12) {
		granted(t, p, addr, api.R, addr < 4 || addr > 7)
		granted(t, p, addr, api.W|api.X, addr > 7)
		granted(t, p, addr, api.R|api.W, addr < 4 || addr > 7)
	}
	granted(t, p, last, api.X, true)
	granted(t, api.Pmp{}, 0, 7, false)
	granted(t, all(0x07, 0), 0, 7, false)
}

// TestG11Priority: entries behind the one that counts do not.
func TestG11Priority(t *testing.T) {
	r := random(20)
	met := 0
	for range 40_000 {
		p, q := some(r), some(r)
		addr, size, bits, mode := place(r, p), anySize(r), anyRights(r), anyMode(r)
		i, whole := pmp.Match(p, addr, size)
		if i < 0 {
			continue
		}
		met++
		copy(q.Cfg[:i+1], p.Cfg[:])
		copy(q.Addr[:i+1], p.Addr[:])
		if j, w := pmp.Match(q, addr, size); j != i || w != whole {
			t.Fatalf("G11: Match(.., %#x, %d) is %d, %v of\n%x, but %d, %v of\n%x", addr, size, i, whole, p, j, w, q)
		}
		if pmp.Check(p, mode, addr, size, bits) != pmp.Check(q, mode, addr, size, bits) {
			t.Fatalf("G11: Check(.., %d, %#x, %d, %d) of\n%x is another of\n%x", mode, addr, size, bits, p, q)
		}
	}
	if met < 5000 {
		t.Errorf("only %d accesses met an entry: the test has grown idle", met)
	}
}

// passing does something with many accesses that pass in U.
func passing(t *testing.T, seed uint64, do func(p api.Pmp, addr uint64, size, bits int)) {
	t.Helper()
	r := random(seed)
	passed := 0
	for range 60_000 {
		p := some(r)
		addr, size, bits := place(r, p), anySize(r), anyRights(r)
		if pmp.Check(p, api.U, addr, size, bits) {
			passed++
			do(p, addr, size, bits)
		}
	}
	if passed < 3000 {
		t.Errorf("only %d accesses passed: the test has grown idle", passed)
	}
}

// TestG12Whole: what passes in U passes byte by byte.
func TestG12Whole(t *testing.T) {
	passing(t, 21, func(p api.Pmp, addr uint64, size, bits int) {
		for k := range size {
			at := addr + uint64(k)
			if !pmp.Check(p, api.U, at, 1, bits) {
				t.Fatalf("G12: Check(%x, U, %#x, %d, %d) passes, but not its byte %#x", p, addr, size, bits, at)
			}
			for _, one := range []int{api.R, api.W, api.X} {
				if bits&one != 0 && !pmp.Granted(p, at, one) {
					t.Fatalf("G12: Check(%x, U, %#x, %d, %d) passes, but byte %#x is not granted", p, addr, size, bits, at)
				}
			}
		}
	})
}

// TestG13More: what passes in U passes in M.
func TestG13More(t *testing.T) {
	passing(t, 22, func(p api.Pmp, addr uint64, size, bits int) {
		if !pmp.Check(p, api.M, addr, size, bits) {
			t.Fatalf("G13: Check(%x, .., %#x, %d, %d) passes in U, but not in M", p, addr, size, bits)
		}
	})
}
