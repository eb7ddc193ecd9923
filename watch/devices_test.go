package watch_test

import (
	"fmt"
	"math"
	"testing"

	"anvil/api"
)

// accessed is a right look in M of a row that tells this access, at which nothing of the devices has changed but what the world brings.
func accessed(mem int, addr uint64, size int, w api.World) look {
	l := cut(api.M)
	l.b.Cpu.Pmp, l.a.Cpu.Pmp = api.Pmp{}, api.Pmp{}
	l.b.Bus.Mtime, l.b.Bus.Mtimecmp, l.b.Bus.Msip = 5, 6, 1
	l.a.Bus.Mtime, l.a.Bus.Mtimecmp, l.a.Bus.Msip = 5+truth(w.Tick), 6, 1
	l.a.Bus.Ext, l.a.Bus.Soft = w.Ext, w.Soft
	l.w = w
	l.r.Mem, l.r.Addr, l.r.Size = mem, addr, size
	return l
}

// aside is 19 where an access can't be, whose row is wrong whatever the devices do.
func aside(mem int, addr uint64, size int) int {
	if mem == 0 || mem >= 1 && mem <= 3 && (size == 1 || size == 2 || size == 4 || size == 8) && addr%uint64(size) == 0 {
		return 0
	}
	return 19
}

// TestP18_1Rule14And15: mtime, mtimecmp and msip change just where the row tells a store of which one byte is theirs.
func TestP18_1Rule14And15(t *testing.T) {
	for _, register := range []struct {
		at     uint64
		n      int
		rule   int
		change func(s *api.Bus)
	}{
		{mtime, 8, 14, func(s *api.Bus) { s.Mtime ^= 1 << 63 }},
		{mtime, 8, 14, func(s *api.Bus) { s.Mtime++ }},
		{mtimecmp, 8, 15, func(s *api.Bus) { s.Mtimecmp ^= 1 << 40 }},
		{msip, 4, 15, func(s *api.Bus) { s.Msip ^= 1 }},
		{msip, 4, 15, func(s *api.Bus) { s.Msip ^= 1 << 31 }},
	} {
		places := []uint64{0, 1, ones, ones - 6, ones - 7, ram, console, finisher, msip, mtimecmp, mtime, register.at + 1<<32}
		for k := range uint64(24) {
			places = append(places, register.at-12+k)
		}
		for _, at := range places {
			for _, size := range []int{0, 1, 2, 3, 4, 5, 6, 7, 8, 9, -1, math.MaxInt, math.MinInt} {
				for _, mem := range []int{0, 1, 2, 3, 4, 6, 7, -1, -2, -3} {
					for _, tick := range []bool{false, true} {
						l := accessed(mem, at, size, api.World{Tick: tick})
						name := fmt.Sprintf("Mem %d, Addr %#x, Size %d: the register at %#x", mem, at, size, register.at)
						quiet := aside(mem, at, size)
						if mem&2 != 0 && size >= 1 && size <= 8 && at >= ram-8 && at < ram+72 {
							continue // RAM has other rules
						}
						l.tells(t, name+" stays", quiet)
						register.change(&l.a.Bus)
						meets := false
						for k := range max(min(size, 9), 0) {
							one := at + uint64(k)
							meets = meets || size <= 8 && mem&2 != 0 && one >= at && one >= register.at && one < register.at+uint64(register.n)
						}
						want := register.rule
						if meets {
							want = quiet
						}
						l.tells(t, name, want)
					}
				}
			}
		}
	}
}

// TestP18_1Rule14Ticks: mtime by the world's tick, in each kind of row, up to the last number.
func TestP18_1Rule14Ticks(t *testing.T) {
	for _, of := range []string{"addiU", "sdM", "ecallM", "interruptU", "waitM", "mret", "sbU", "sdCmpM", "swMsipU"} {
		for _, from := range []uint64{0, 7, ones, ones - 1, 1<<63 - 1} {
			for by := range uint64(3) {
				for _, tick := range []bool{false, true} {
					l := looks(t)[of]
					l.b.Cpu.Mie, l.a.Cpu.Mie = 0, 0
					l.w.Tick, l.b.Bus.Mtime, l.a.Bus.Mtime = tick, from, from+by
					want := 14
					if by == truth(tick) {
						want = 0
					}
					l.tells(t, fmt.Sprintf("%s: mtime %#x by %d", of, from, by), want)
				}
			}
		}
	}
}

// TestP18_1Rule16: the lines are the world's, whatever they were.
func TestP18_1Rule16(t *testing.T) {
	bools := []bool{false, true}
	for _, of := range []string{"addiU", "sdM", "ecallM", "interruptU", "waitM", "mret", "offU"} {
		for k := range 64 {
			bit := func(n int) bool { return bools[k>>n&1] }
			l := looks(t)[of]
			l.b.Cpu.Mie, l.a.Cpu.Mie = 0, 0
			l.w.Ext, l.w.Soft, l.a.Bus.Ext, l.a.Bus.Soft, l.b.Bus.Ext, l.b.Bus.Soft = bit(0), bit(1), bit(2), bit(3), bit(4), bit(5)
			want := 0
			switch {
			case of == "offU" && (bit(2) != bit(4) || bit(3) != bit(5)):
				want = 3
			case of != "offU" && (bit(0) != bit(2) || bit(1) != bit(3)):
				want = 16
			}
			l.tells(t, fmt.Sprintf("%s: lines %06b", of, k), want)
		}
	}
}

// TestP18_1Rule17Grid: the output grows just where the row stores to the console's data alone, and by nothing but the Data.
func TestP18_1Rule17Grid(t *testing.T) {
	grown := 0
	for _, at := range []uint64{console, console - 1, console + 1, console + 7, console - 7, ram + 8, mtime, 0, ones, console + 1<<32} {
		for _, size := range []int{0, 1, 2, 4, 8, 3, -1, 9, 257} {
			for _, mem := range []int{0, 1, 2, 3, 6, -2} {
				for _, data := range []uint64{0, 7, 255, 256, 7 + 256, 7 + 1<<63, ones} {
					for _, more := range [][]byte{nil, {7}, {0}, {255}, {7, 7}, {7, 0}, {8}} {
						l := accessed(mem, at, size, api.World{})
						if l.r.Data = data; at == ram+8 && mem&2 != 0 {
							continue
						}
						l.b.Bus.Output, l.a.Bus.Output = []byte("ab"), append([]byte("ab"), more...)
						want := aside(mem, at, size)
						right := mem&2 != 0 && at == console && size == 1 && len(more) == 1 && uint64(more[0]) == data
						if len(more) > 0 && !right {
							want = 17
						}
						l.tells(t, fmt.Sprintf("Mem %d, Addr %#x, Size %d, Data %#x: %x is sent", mem, at, size, data, more), want)
						grown += int(truth(right && want == 0))
					}
				}
			}
		}
	}
	if grown != 6 {
		t.Errorf("%d bytes were sent", grown)
	}
}

// TestP18_1Rule17: the output ahead of the step is the beginning of the one behind it.
func TestP18_1Rule17(t *testing.T) {
	var changes []change
	for _, of := range []string{"addiU", "sbU", "sbM", "ecallM", "interruptU", "waitM", "offU", "mret"} {
		sent := of[:2] == "sb"
		wrong, right := only(17), none()
		if of == "offU" {
			wrong = only(3, 17)
		}
		gone := wrong
		if sent {
			gone = right
		}
		changes = append(changes,
			change{"one byte less", of, func(l *look) { l.a.Bus.Output = l.b.Bus.Output[:2] }, wrong},
			change{"none", of, func(l *look) { l.a.Bus.Output = nil }, wrong},
			change{"another beginning", of, func(l *look) { l.a.Bus.Output[0]++ }, wrong},
			change{"another end", of, func(l *look) { l.a.Bus.Output[2]++ }, wrong},
			change{"two bytes more", of, func(l *look) { l.a.Bus.Output = append(l.a.Bus.Output, 6, 6) }, wrong},
			change{"a byte ahead", of, func(l *look) { l.a.Bus.Output = append([]byte{6}, l.b.Bus.Output...) }, wrong},
			change{"more, where there was none", of, func(l *look) { l.b.Bus.Output, l.a.Bus.Output = nil, []byte{7} }, wrong},
			change{"none at all", of, func(l *look) { l.b.Bus.Output, l.a.Bus.Output = nil, []byte{} }, right},
		)
		if sent {
			changes = append(changes,
				change{"nothing is sent", of, func(l *look) { l.a.Bus.Output = l.b.Bus.Output }, gone},
				change{"another byte", of, func(l *look) { l.a.Bus.Output[3]++ }, wrong},
				change{"another Data", of, func(l *look) { l.r.Data += 256 }, wrong},
				change{"another Data and nothing is sent", of, func(l *look) { l.r.Data += 256; l.a.Bus.Output = l.b.Bus.Output }, right},
				change{"told as a load", of, func(l *look) { l.r.Mem = api.R }, wrong},
				change{"told at the next register", of, func(l *look) { l.r.Addr++ }, wrong},
				change{"told of two bytes", of, func(l *look) { l.r.Size = 2 }, wrong},
				change{"the first byte of all", of, func(l *look) { l.b.Bus.Output, l.a.Bus.Output = nil, []byte{byte(l.r.Data)} }, right},
			)
		}
	}
	judged(t, changes)
}
