package watch_test

import (
	"fmt"
	"math"
	"testing"

	"anvil/api"
	"anvil/pmp"
)

// TestP18_1Rule18: from U to M by a trap alone, from M to U by MRET alone.
func TestP18_1Rule18(t *testing.T) {
	turn := func(l *look) { l.a.Cpu.Mode ^= 3; l.follow() }
	raw := func(v uint32) func(l *look) { return func(l *look) { l.r.Raw = v } }
	judged(t, []change{
		{"to M", "addiU", turn, only(18)},
		{"to U", "addiM", turn, only(18)},
		{"to M by MRET", "wfiU", func(l *look) { turn(l); l.r.Raw = mret }, only(18)},
		{"to U by MRET", "wfiM", func(l *look) { turn(l); l.r.Raw = mret }, none()},
		{"to U by SRET", "mret", raw(0x10200073), only(18)},
		{"to U by WFI", "wfiM", turn, only(18)},
		{"MRET with one bit more", "mret", raw(mret | 1<<7), only(18)},
		{"in M still by MRET", "mret", turn, none()},
		{"in U still with MRET", "wfiU", raw(mret), none()},
		{"in M still by a trap", "ecallM", func(l *look) {}, none()},
		{"to M in a wait", "waitU", turn, only(11, 18)},
		{"to U in a wait", "waitM", turn, only(11, 18)},
		{"to U in a wait with MRET", "waitM", func(l *look) { turn(l); l.r.Raw = mret }, only(11, 18)},
		{"to M with the power off", "offU", turn, only(3, 18)},
		{"to U with the power off", "offM", turn, only(3, 18)},
		{"to U by a trap", "interruptM", turn, only(10, 18)},
		{"to U by a trap with MRET", "ecallM", func(l *look) { turn(l); l.r.Raw = mret }, only(10, 18)},
		{"a Mode 2 is U", "addiU", func(l *look) { l.b.Cpu.Mode = 2 }, none()},
	})
}

// TestP18_1Rule19Shape: which Mem, Size and Addr an access can have where nothing is protected.
func TestP18_1Rule19Shape(t *testing.T) {
	for _, mem := range []int{0, 1, 2, 3, 4, 5, 6, 7, 8, -1, -3, 1 << 40, math.MaxInt, math.MinInt} {
		for _, size := range []int{0, 1, 2, 3, 4, 5, 6, 7, 8, 9, 16, -1, -4, 1 << 40, math.MaxInt, math.MinInt} {
			for k := range uint64(17) {
				for _, from := range []uint64{finisher, 0, ones - 16, 0x4000} {
					at := from + k
					accessed(mem, at, size, api.World{}).tells(t, fmt.Sprintf("Mem %d, Addr %#x, Size %d", mem, at, size), aside(mem, at, size))
				}
			}
		}
	}
}

// TestP18_1Rule19Modes: the mode that counts is U's, or MPP with MPRV in M; the entries are those ahead of the step.
func TestP18_1Rule19Modes(t *testing.T) {
	told := map[int]int{}
	for _, mode := range []int{api.U, api.M} {
		for _, status := range []uint64{0, 1 << 17, 0x1800, 1<<17 | 0x1800, 1<<17 | 0x800} {
			for word := range uint64(12) {
				for _, size := range []int{1, 2, 4, 8} {
					for mem := 1; mem <= 3; mem++ {
						l := cut(mode)
						l.b.Cpu.Mstatus |= status
						l.a.Cpu.Mstatus |= status &^ 0x800
						if status&0x1800 == 0x1800 {
							l.a.Cpu.Mstatus |= 0x800
						}
						l.r.Mem, l.r.Addr, l.r.Size = mem, ram+4*word, size
						data := mode
						if mode == api.M && status>>17&1 == 1 && status&0x1800 != 0x1800 {
							data = api.U
						}
						want := 19
						if l.r.Addr%uint64(size) == 0 && pmp.Check(l.b.Cpu.Pmp, data, l.r.Addr, size, mem) {
							want = 0
						}
						l.tells(t, fmt.Sprintf("mode %d, Mstatus %#x, Mem %d, word %d, Size %d", mode, status, mem, word, size), want)
						told[want]++
						l.a.Cpu.Pmp = api.Pmp{}
						if mode == api.M {
							l.tells(t, "open behind the step", 8)
						}
					}
				}
			}
		}
	}
	if told[0] < 100 || told[19] < 100 {
		t.Errorf("the rules told are %v", told)
	}
}

// TestP18_1Rule19Kinds: rows that did not retire tell no access at all, and are not asked here.
func TestP18_1Rule19Kinds(t *testing.T) {
	judged(t, []change{
		{"an odd Addr", "ldM", func(l *look) { l.r.Addr++ }, only(19)},
		{"no right", "ldU", func(l *look) { l.b.Cpu.Pmp.Cfg[15], l.a.Cpu.Pmp.Cfg[15] = 0x1c, 0x1c }, only(19)},
		{"no right in M", "ldM", func(l *look) { l.b.Cpu.Pmp.Cfg[15], l.a.Cpu.Pmp.Cfg[15] = 0x1c, 0x1c }, none()},
		{"no right in M, locked", "ldM", func(l *look) { l.b.Cpu.Pmp.Cfg[15], l.a.Cpu.Pmp.Cfg[15] = 0x9c, 0x9c }, only(19)},
		{"no R for an AMO", "amoaddU", func(l *look) { l.b.Cpu.Pmp.Cfg[15], l.a.Cpu.Pmp.Cfg[15] = 0x1d, 0x1d }, only(5, 19)},
		{"MPRV, without a right", "mprv", func(l *look) { l.b.Cpu.Pmp.Cfg[15], l.a.Cpu.Pmp.Cfg[15] = 0x1c, 0x1c }, only(19)},
		{"MPRV, with a right behind the step", "mprv", func(l *look) { l.b.Cpu.Pmp.Cfg[15] = 0x1c }, only(19)},
		{"MPRV, with a right ahead of the step", "mprv", func(l *look) { l.a.Cpu.Pmp.Cfg[15] = 0x1c }, none()},
		{"MPRV behind the step", "ldM", func(l *look) {
			l.b.Cpu.Pmp.Cfg[15], l.a.Cpu.Pmp.Cfg[15] = 0x1c, 0x1c
			l.a.Cpu.Mstatus |= 1 << 17
		}, none()},
		{"a load nowhere", "ldM", func(l *look) { l.r.Addr = 0 }, none()},
		{"a load of a device by two bytes", "ldM", func(l *look) { l.r.Addr, l.r.Size = console, 2 }, none()},
		{"an access of no size in an exception", "ecallM", func(l *look) { l.r.Mem = 9 }, only(4)},
	})
}

// TestP18_1Rule20Lengths: a length is 2 or 4, or there is none, in each kind of row.
func TestP18_1Rule20Lengths(t *testing.T) {
	all := looks(t)
	for _, of := range []string{"addiU", "addiM", "c.nopU", "ecallU", "illegalM", "interruptM", "waitU", "offM", "mret"} {
		for _, length := range []int{0, 1, 2, 3, 4, 5, 6, 8, -1, -2, -4, math.MaxInt, math.MinInt, 1<<32 + 2} {
			l := all[of]
			l.r.Len = length
			want := 20
			if length == 0 || length == 2 || length == 4 {
				want = 0
			}
			l.tells(t, fmt.Sprintf("%s: Len %d", of, length), want)
		}
	}
}

// TestP18_1Rule20Rights: each parcel needs X, in the mode ahead of the step, with MPRV too; the second parcel may be another entry's.
func TestP18_1Rule20Rights(t *testing.T) {
	told := map[int]int{}
	for _, mode := range []int{api.U, api.M} {
		for k := range uint64(24) {
			for _, length := range []int{2, 4} {
				l := cut(mode)
				l.b.Cpu.Mstatus |= 1 << 17
				l.a.Cpu.Mstatus |= 1 << 17
				l.b.Cpu.Pc = ram - 8 + 2*k
				l.r.Len = length
				l.follow()
				want := 0
				for parcel := l.b.Cpu.Pc; parcel < l.b.Cpu.Pc+uint64(length); parcel += 2 {
					word := (parcel - ram) / 4
					x := parcel < ram || word >= 8 || word >= 3 && word <= 5
					if !x && (mode == api.U || word >= 6) {
						want = 20
					}
				}
				l.tells(t, fmt.Sprintf("mode %d, Pc %#x, Len %d", mode, l.b.Cpu.Pc, length), want)
				told[want]++
				l.r.Len = 0
				l.tells(t, "no length", 0)
			}
		}
	}
	if told[0] < 20 || told[20] < 20 {
		t.Errorf("the rules told are %v", told)
	}
}

// TestP18_1Rule20Last: at the last address the second parcel is at 0; an entry that has half a parcel fails in M too.
func TestP18_1Rule20Last(t *testing.T) {
	l := cut(api.U)
	l.b.Cpu.Pc, l.b.Cpu.Pmp, l.a.Cpu.Pmp = ones-1, api.Pmp{}, api.Pmp{}
	l.b.Cpu.Pmp.Cfg[1], l.b.Cpu.Pmp.Addr[1] = 0x1c, every
	for _, first := range []uint8{0x10, 0x14} {
		l.b.Cpu.Pmp.Cfg[0] = first // NA4 at 0
		l.a.Cpu.Pmp = l.b.Cpu.Pmp
		for _, length := range []int{2, 4} {
			l.r.Len = length
			l.follow()
			want := 0
			if length == 4 && first == 0x10 {
				want = 20
			}
			l.tells(t, fmt.Sprintf("entry %#x, Len %d", first, length), want)
		}
	}
	l.b.Cpu.Pmp, l.a.Cpu.Pmp = api.Pmp{}, api.Pmp{}
	l.r.Len = 4
	l.tells(t, "U without an entry", 20)
	l.b.Cpu.Mode, l.a.Cpu.Mode = api.M, api.M
	l.follow()
	l.tells(t, "M without an entry", 0)
	l.b.Cpu.Pmp.Cfg[0], l.b.Cpu.Pmp.Addr[0] = 0x88|4, ram/4 // locked X below RAM, from 0 on
	l.a.Cpu.Pmp = l.b.Cpu.Pmp
	l.tells(t, "M with a locked entry", 0)
	l.b.Cpu.Pmp.Cfg[0], l.a.Cpu.Pmp.Cfg[0] = 0x88|1, 0x88|1
	l.tells(t, "M with a locked entry without X", 20)
	l.r.Len = 2
	l.tells(t, "M ahead of a locked entry without X", 0)
}
