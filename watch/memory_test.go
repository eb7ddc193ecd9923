package watch_test

import (
	"fmt"
	"math"
	"testing"

	"anvil/api"
	"anvil/pmp"
)

// cut is a look in which RAM's words have other rights than the rest: word k of the first sixteen has the entry k % 8, of no right, R, RW, X, RX, RWX, RW and locked, or R and locked. Its instruction stands behind them.
func cut(mode int) look {
	l := look{b: api.Whole{Cpu: api.Cpu{Pc: ram + 64, Mode: mode, Mstatus: uxl}}}
	p := &l.b.Cpu.Pmp
	for k, rights := range []uint8{0, 1, 3, 4, 5, 7, 0x83, 0x81} {
		p.Cfg[k], p.Addr[k] = 0x10|rights, ram/4+uint64(k)
	}
	p.Cfg[15], p.Addr[15] = 0x1f, every
	l.b.Bus.Ram = make([]byte, 72)
	l.a = copiedWhole(l.b)
	l.a.Cpu.Pc, l.a.Cpu.Mcycle, l.a.Cpu.Minstret = ram+68, 1, 1
	l.r = api.Row{Kind: api.RowRetire, Raw: 0x13, Len: 4}
	l.follow()
	return l
}

// TestP18_1Rule5: in U a byte without W may not change, whatever the row tells of it; in M it may.
func TestP18_1Rule5(t *testing.T) {
	kept := 0
	for _, mode := range []int{api.U, api.M} {
		for i := range 72 {
			granted := i >= 32 || i/4 == 2 || i/4 == 5 || i/4 == 6
			l := cut(mode)
			l.a.Bus.Ram[i] = 7
			want := 6
			if mode == api.U && !granted {
				want = 5
			}
			l.tells(t, fmt.Sprintf("byte %d in mode %d", i, mode), want)
			l.r.Mem, l.r.Addr, l.r.Size, l.r.Data = api.W, ram+uint64(i), 1, 7
			switch {
			case granted, mode == api.M && i/4 != 7:
				want = 0
				kept++
			case mode == api.M:
				want = 19
			}
			l.tells(t, fmt.Sprintf("byte %d in mode %d, which is stored", i, mode), want)
		}
	}
	if kept != 3*4+40+72-4 {
		t.Errorf("%d stores are right", kept)
	}
}

// TestP18_1Rule5Before: the entries that count are those ahead of the step, and the mode is the Cpu's own, not the one of its data.
func TestP18_1Rule5Before(t *testing.T) {
	l := cut(api.U)
	l.a.Bus.Ram[1] = 7
	l.a.Cpu.Pmp.Cfg[0] = 0x17
	l.tells(t, "granted behind the step", 5)
	l = cut(api.U)
	l.a.Bus.Ram[9] = 7
	l.a.Cpu.Pmp.Cfg[2] = 0x10
	l.tells(t, "granted ahead of the step", 6)
	l = cut(api.M)
	l.b.Cpu.Mstatus |= 1 << 17
	l.a.Cpu.Mstatus |= 1 << 17
	l.a.Bus.Ram[1] = 7
	l.tells(t, "in M with MPRV", 6)
	l = cut(api.U)
	l.b.Cpu.Pmp, l.a.Cpu.Pmp = api.Pmp{}, api.Pmp{}
	l.r.Len = 0
	l.tells(t, "no entry", 0)
	l.a.Bus.Ram[71] = 1
	l.tells(t, "no entry", 5)
}

// TestP18_1Rule6Grid: RAM of 16 bytes under every place around its ends, of every size and every Mem, with each byte changed alone, and with the Data stored as far as it lies in RAM.
func TestP18_1Rule6Grid(t *testing.T) {
	base := cut(api.M)
	base.b.Cpu.Pmp, base.a.Cpu.Pmp = api.Pmp{}, api.Pmp{}
	base.b.Bus.Ram, base.a.Bus.Ram = make([]byte, 16), make([]byte, 16)
	var places []uint64
	for k := range uint64(36) {
		places = append(places, ram-10+k)
	}
	places = append(places, 0, 1, ones, ones-1, ones-3, ones-7, ones-8, ram<<1, ram<<32, 1<<63)
	counts := map[int]int{}
	for _, at := range places {
		for _, size := range []int{0, 1, 2, 3, 4, 5, 6, 7, 8, 9, 16, -1, -8, math.MaxInt, math.MinInt} {
			for _, mem := range []int{0, 1, 2, 3, 4, 5, 6, 7, 10, -1, -2, -3, -4, math.MaxInt, math.MinInt} {
				l := base.copied()
				l.r.Mem, l.r.Addr, l.r.Size, l.r.Data = mem, at, size, 0x8877665544332211
				for changed := -2; changed < 16; changed++ {
					ramBehind(&l, changed)
					want := wanted(l)
					if got := l.told(); got != want {
						t.Fatalf("P18.1: Mem %d, Addr %#x, Size %d, RAM %x: rule %d, want %d", mem, at, size, l.a.Bus.Ram, got, want)
					}
					counts[want]++
				}
			}
		}
	}
	if len(counts) != 3 || counts[0] < 300 || counts[6] < 10000 || counts[19] < 1000 {
		t.Errorf("the rules told are %v", counts)
	}
}

// ramBehind makes RAM behind the step: one byte changed, none (-1), or the Data in its place (-2).
func ramBehind(l *look, changed int) {
	for i := range l.a.Bus.Ram {
		l.a.Bus.Ram[i] = 0
		if k := ram + uint64(i) - l.r.Addr; changed == i {
			l.a.Bus.Ram[i] = 1
		} else if changed == -2 && k < 8 && int(k) < l.r.Size {
			l.a.Bus.Ram[i] = byte(l.r.Data >> (8 * k))
		}
	}
}

// wanted is the rule that such a look breaks, in so many words.
func wanted(l look) int {
	set, whole := placeOf(l.r)
	stores := l.r.Mem&2 != 0
	for at := range set {
		whole = whole && at >= ram && at < ram+16
	}
	for i, v := range l.a.Bus.Ram {
		k, in := set[ram+uint64(i)]
		if v != 0 && !(stores && in) {
			return 6
		}
		if stores && in && whole && v != byte(l.r.Data>>(8*k)) {
			return 6
		}
	}
	right := l.r.Mem >= 0 && l.r.Mem <= 3 && (l.r.Size == 1 || l.r.Size == 2 || l.r.Size == 4 || l.r.Size == 8)
	if l.r.Mem == 0 || right && l.r.Addr%uint64(l.r.Size) == 0 {
		return 0
	}
	return 19
}

// TestP18_1Rule6Places: what the row's place is, and what must stand in it.
func TestP18_1Rule6Places(t *testing.T) {
	judged(t, []change{
		{"another byte", "sdM", func(l *look) { l.a.Bus.Ram[40]++ }, only(6)},
		{"the byte ahead", "sdU", func(l *look) { l.a.Bus.Ram[31]++ }, only(6)},
		{"the first byte of the place", "sdU", func(l *look) { l.a.Bus.Ram[32]++ }, only(6)},
		{"the last byte of the place", "sdM", func(l *look) { l.a.Bus.Ram[39]++ }, only(6)},
		{"nothing stored", "sdM", func(l *look) { l.a.Bus.Ram = append([]byte{}, l.b.Bus.Ram...) }, only(6)},
		{"another Data", "sdM", func(l *look) { l.r.Data ^= 1 << 63 }, only(6)},
		{"told as a load", "sdM", func(l *look) { l.r.Mem = api.R }, only(6)},
		{"told as an AMO", "sdM", func(l *look) { l.r.Mem = 3 }, none()},
		{"told as nothing", "sdM", func(l *look) { l.r.Mem = 0 }, only(6)},
		{"told elsewhere", "sdM", func(l *look) { l.r.Addr = mtime }, only(6)},
		{"told with another size", "sdM", func(l *look) { l.r.Size = 4 }, only(6)},
		{"told with more bits", "sdM", func(l *look) { l.r.Mem |= 8 }, only(19)},
		{"a load that changes RAM", "ldM", func(l *look) { l.a.Bus.Ram[32]++ }, only(6)},
		{"an AMO's bytes", "amoaddM", func(l *look) { l.a.Bus.Ram[35]++ }, only(6)},
		{"the byte behind an AMO's", "amoaddM", func(l *look) { l.a.Bus.Ram[36]++ }, only(6)},
		{"an AMO's Data above its bytes", "amoaddM", func(l *look) { l.r.Data |= 1 << 40 }, none()},
		{"a trap", "ecallM", func(l *look) { l.a.Bus.Ram[5]++ }, only(6)},
		{"a wait", "waitM", func(l *look) { l.a.Bus.Ram[5]++ }, only(6)},
		{"an interrupt", "interruptU", func(l *look) { l.a.Bus.Ram[63]++ }, only(6)},
	})
}

// TestP18_1Rule7: in U no entry changes, in M those may that are open.
func TestP18_1Rule7(t *testing.T) {
	for i := range 16 {
		for _, of := range []string{"addi", "ecall", "interrupt"} {
			held := i == 3 || i == 2
			locked, open := only(8), none()
			if held {
				open = locked
			}
			inU := only(7)
			if held {
				inU = only(7, 8)
			}
			addr := func(l *look) { l.a.Cpu.Pmp.Addr[i] ^= 1 << 50 }
			judged(t, []change{{"Addr", of + "U", addr, inU}, {"Addr", of + "M", addr, open}})
			cfg := func(l *look) { l.a.Cpu.Pmp.Cfg[i] ^= 4 }
			inU, open = only(7), none()
			if i == 3 {
				inU, open = only(7, 8), locked
			}
			judged(t, []change{{"Cfg", of + "U", cfg, inU}, {"Cfg", of + "M", cfg, open}})
		}
	}
}

// TestP18_1Rule8: for each entry and its neighbour, of every kind, locked and not: what takes no write ahead of the step stays, the rest may change; what is locked behind it does not count.
func TestP18_1Rule8(t *testing.T) {
	base := cut(api.M)
	base.b.Cpu.Pmp, base.r.Len = api.Pmp{}, 0
	for i := range 16 {
		for cfg := range 256 {
			for next := range 256 {
				if cfg != 0 && cfg != 0x80 && next != 0 {
					continue
				}
				l := base
				p := api.Pmp{}
				p.Cfg[i] = uint8(cfg)
				if i < 15 {
					p.Cfg[i+1] = uint8(next)
				}
				p = pmp.Proper(p)
				l.b.Cpu.Pmp = p
				locked := p.Cfg[i]&0x80 != 0
				tor := i < 15 && p.Cfg[i+1]&0x98 == 0x88
				for _, what := range []int{0, 1, 2} {
					l.a.Cpu.Pmp = p
					want := 0
					switch what {
					case 1:
						l.a.Cpu.Pmp.Cfg[i] ^= 0x85
						if l.a.Cpu.Pmp = pmp.Proper(l.a.Cpu.Pmp); locked {
							want = 8
						}
					case 2:
						l.a.Cpu.Pmp.Addr[i] ^= 1 << 53
						if locked || tor {
							want = 8
						}
					}
					if got := l.told(); got != want {
						t.Fatalf("P18.1: entry %d, Cfg %#x and %#x, change %d: rule %d, want %d", i, cfg, next, what, got, want)
					}
				}
			}
		}
	}
}
