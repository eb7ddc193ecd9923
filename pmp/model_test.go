package pmp_test

import (
	"testing"

	"anvil/api"
	"anvil/pmp"
)

// The model: what the document says of entries, bit by bit and byte by byte. It asks of each byte whether an entry means it, and knows no range's first and last address.

func bit(v uint64, n int) bool { return v>>n%2 == 1 }

func modelProper(p api.Pmp) api.Pmp {
	var q api.Pmp
	for i := range 16 {
		c := uint64(p.Cfg[i])
		for _, n := range []int{0, 1, 2, 3, 4, 7} {
			if bit(c, n) && (n != 1 || bit(c, 0)) {
				q.Cfg[i] += 1 << n
			}
		}
		for n := range 54 {
			if bit(p.Addr[i], n) {
				q.Addr[i] += 1 << n
			}
		}
	}
	return q
}

func modelCfg(p api.Pmp, reg int) uint64 {
	v := uint64(0)
	for k := 7; k >= 0; k-- {
		v *= 256
		switch reg {
		case 0:
			v += uint64(modelProper(p).Cfg[k])
		case 2:
			v += uint64(modelProper(p).Cfg[8+k])
		}
	}
	return v
}

func modelLocked(p api.Pmp, i int) (bool, bool) {
	if i < 0 || i > 15 {
		return true, true
	}
	own := p.Cfg[i] >= 0x80
	next := i < 15 && (p.Cfg[i+1]&0x98 == 0x88)
	return own, own || next
}

func modelOrder(p api.Pmp, o order) api.Pmp {
	q := modelProper(p)
	for i := range 16 {
		cfg, addr := modelLocked(p, i)
		if o.addr && o.n == i && !addr {
			q.Addr[i] = o.v
		}
		if !o.addr && (o.n == 0 && i < 8 || o.n == 2 && i > 7) && !cfg {
			q.Cfg[i] = uint8(o.v >> (i % 8 * 8))
		}
	}
	return modelProper(q)
}

// modelMeans tells whether a proper entry's range has a byte.
func modelMeans(p api.Pmp, i int, b uint64) bool {
	unit, addr := b/4, p.Addr[i]
	switch p.Cfg[i] / 8 % 4 {
	case 1:
		return unit < addr && (i == 0 || unit >= p.Addr[i-1])
	case 2:
		return unit == addr
	case 3:
		for n := range 54 {
			if !bit(addr, n) {
				return unit>>(n+1) == addr>>(n+1)
			}
		}
		return true
	}
	return false
}

func modelMatch(p api.Pmp, addr uint64, size int) (int, bool) {
	p = modelProper(p)
	if size < 1 || size > 8 {
		return -1, false
	}
	for i := range 16 {
		n := 0
		for k := range size {
			if modelMeans(p, i, addr+uint64(k)) {
				n++
			}
		}
		if n > 0 {
			return i, n == size
		}
	}
	return -1, false
}

func modelCheck(p api.Pmp, mode int, addr uint64, size, bits int) bool {
	if mode != 0 && mode != 3 || size < 1 || size > 8 || bits < 1 || bits > 7 {
		return false
	}
	i, all := modelMatch(p, addr, size)
	if i < 0 || !all {
		return i < 0 && mode == 3
	}
	c := uint64(modelProper(p).Cfg[i])
	for n := range 3 {
		if bit(uint64(bits), n) && !bit(c, n) && (mode == 0 || bit(c, 7)) {
			return false
		}
	}
	return true
}

func modelGranted(p api.Pmp, addr uint64, bits int) bool {
	i, _ := modelMatch(p, addr, 1)
	for n := range 3 {
		if i >= 0 && bits>>n&1 == 1 && bit(uint64(modelProper(p).Cfg[i]), n) {
			return true
		}
	}
	return false
}

func TestG1To5Model(t *testing.T) {
	r := random(1)
	for range 40_000 {
		p := some(r)
		same(t, "Proper", pmp.Proper(p), modelProper(p))
		o := anyOrder(r)
		if got, want := o.do(p), modelOrder(p, o); got != want {
			t.Fatalf("G4, G5: %+v of\n%x is\n%x, want\n%x", o, p, got, want)
		}
		n := r.IntN(19) - 1
		if got, want := pmp.Cfg(p, n), modelCfg(p, n); got != want {
			t.Fatalf("G2: Cfg(%x, %d) = %#x, want %#x", p, n, got, want)
		}
		cfg, addr := pmp.Locked(p, n)
		if wantCfg, wantAddr := modelLocked(p, n); cfg != wantCfg || addr != wantAddr {
			t.Fatalf("G3: Locked(%x, %d) = %v, %v, want %v, %v", p, n, cfg, addr, wantCfg, wantAddr)
		}
	}
}

func TestG6Model(t *testing.T) {
	r := random(2)
	for range 40_000 {
		p := some(r)
		q := modelProper(p)
		i := r.IntN(16)
		first, end, ok := pmp.Span(p, i)
		if !ok {
			if first != 0 || end != 0 {
				t.Fatalf("G6: Span(%x, %d) = %#x, %#x, false", p, i, first, end)
			}
			for _, b := range []uint64{0, last, q.Addr[i] << 2, q.Addr[i]<<2 - 1, q.Addr[max(i, 1)-1] << 2, place(r, p)} {
				if modelMeans(q, i, b) {
					t.Fatalf("G6: Span(%x, %d) is empty, but has %#x", p, i, b)
				}
			}
			continue
		}
		for _, b := range []uint64{first, first + 1, end - 1, end, first + r.Uint64()%max(end-first, 1)} {
			if !modelMeans(q, i, b) || b < first || b > end {
				t.Fatalf("G6: Span(%x, %d) = %#x to %#x, but has not %#x", p, i, first, end, b)
			}
		}
		if first > 0 && modelMeans(q, i, first-1) || end < last && modelMeans(q, i, end+1) {
			t.Fatalf("G6: Span(%x, %d) = %#x to %#x, but has more", p, i, first, end)
		}
	}
}

func TestG7To9Model(t *testing.T) {
	r := random(3)
	passed := [2]int{}
	for range 100_000 {
		p := some(r)
		addr, mode, size, bits := place(r, p), anyMode(r), r.IntN(11)-1, r.IntN(11)-1
		if r.IntN(20) == 0 {
			mode = r.IntN(7) - 1
		}
		i, all := pmp.Match(p, addr, size)
		if want, wantAll := modelMatch(p, addr, size); i != want || all != wantAll {
			t.Fatalf("G7: Match(%x, %#x, %d) = %d, %v, want %d, %v", p, addr, size, i, all, want, wantAll)
		}
		ok, want := pmp.Check(p, mode, addr, size, bits), modelCheck(p, mode, addr, size, bits)
		if ok != want {
			t.Fatalf("G8: Check(%x, %d, %#x, %d, %d) = %v, want %v", p, mode, addr, size, bits, ok, want)
		}
		if ok {
			passed[mode/3]++
		}
		if got, want := pmp.Granted(p, addr, bits), modelGranted(p, addr, bits); got != want {
			t.Fatalf("G9: Granted(%x, %#x, %d) = %v, want %v", p, addr, bits, got, want)
		}
	}
	if passed[0] < 3000 || passed[1] < 3000 {
		t.Errorf("only %d accesses passed in U and %d in M: the test has grown idle", passed[0], passed[1])
	}
}
