package access_test

import (
	"testing"

	"anvil/api"
	"anvil/bus"
)

// eight is a bus whose first bytes of RAM are 11 to 88 (hexadecimal), the last of them with its highest bit set.
func eight(t *testing.T) *bus.Bus {
	t.Helper()
	return of(t, api.Bus{Ram: []byte{0x11, 0x22, 0x33, 0xc4, 0x55, 0xe6, 0x77, 0x88, 0x99, 0xaa, 0xbb, 0xcc, 0xdd, 0xee, 0xff, 0x80}})
}

// TestB2Numbers: the lowest byte is the lowest of the number; no sign is widened.
func TestB2Numbers(t *testing.T) {
	b := eight(t)
	for _, one := range []struct {
		at   uint64
		size int
		want uint64
	}{
		{0, 1, 0x11}, {3, 1, 0xc4}, {15, 1, 0x80}, {0, 2, 0x2211}, {2, 2, 0xc433}, {14, 2, 0x80ff},
		{0, 4, 0xc4332211}, {4, 4, 0x8877e655}, {12, 4, 0x80ffeedd}, {0, 8, 0x8877e655c4332211}, {8, 8, 0x80ffeeddccbbaa99},
	} {
		loads(t, call{"Load", ram + one.at, one.size, 0}, machine(), b, one.want)
		loads(t, call{"Load", ram + one.at, one.size, 0}, user(1), b, one.want)
	}
}

// TestB2Misaligned: alignment, and a size that may not be, come ahead of protection and the bus.
func TestB2Misaligned(t *testing.T) {
	b := eight(t)
	for _, c := range []api.Cpu{machine(), {}, user(7), borrowed(api.Cpu{}, 0)} {
		for _, base := range []uint64{ram, 0, msip, last - 15} {
			for i := range uint64(16) {
				for _, size := range []int{2, 4, 8} {
					if i%uint64(size) != 0 {
						stops(t, call{"Load", base + i, size, 0}, c, b, 4, base+i)
						stops(t, call{"Store", base + i, size, 0}, c, b, 6, base+i)
					}
				}
				for _, size := range sizes() {
					if size != 1 && size != 2 && size != 4 && size != 8 {
						stops(t, call{"Load", base + i, size, 0}, c, b, 4, base+i)
						stops(t, call{"Store", base + i, size, 0}, c, b, 6, base+i)
					}
				}
			}
		}
	}
}

// TestB2Fault: without R, or where nothing is.
func TestB2Fault(t *testing.T) {
	b := eight(t)
	for bits := range uint8(8) {
		for _, lock := range []uint8{0, 0x80} {
			if bits&1 != 0 {
				loads(t, call{"Load", ram, 2, 0}, user(lock|bits), b, 0x2211)
			} else {
				stops(t, call{"Load", ram, 2, 0}, user(lock|bits), b, 5, ram)
			}
		}
	}
	for _, addr := range []uint64{ram - 8, ram + 16, 0, 0x1000, 1 << 63, last - 7, console + 8, msip + 8, finisher + 8} {
		for _, size := range []int{1, 2, 4, 8} {
			stops(t, call{"Load", addr, size, 0}, machine(), b, 5, addr)
			stops(t, call{"Load", addr, size, 0}, user(7), b, 5, addr)
			stops(t, call{"Store", addr, size, 0}, machine(), b, 7, addr)
			stops(t, call{"Store", addr, size, 0}, user(7), b, 7, addr)
		}
	}
}

// TestB2Devices: each register by its size, and by no other.
func TestB2Devices(t *testing.T) {
	b := of(t, rich(8))
	for _, c := range []api.Cpu{machine(), user(1), borrowed(user(1), 0)} {
		loads(t, call{"Load", finisher, 4, 0}, c, b, 0)
		loads(t, call{"Load", msip, 4, 0}, c, b, 1)
		loads(t, call{"Load", mtimecmp, 8, 0}, c, b, 0xfedcba9876543210)
		loads(t, call{"Load", mtimecmp + 4, 4, 0}, c, b, 0xfedcba98)
		loads(t, call{"Load", mtime, 8, 0}, c, b, 0x8123456789abcdef)
		loads(t, call{"Load", mtime, 4, 0}, c, b, 0x89abcdef)
		loads(t, call{"Load", console + 7, 1, 0}, c, b, 0xc7)
	}
	for _, k := range []call{
		{"Load", finisher, 8, 0}, {"Load", finisher, 2, 0}, {"Load", msip, 8, 0}, {"Load", msip, 1, 0}, {"Load", msip + 4, 4, 0},
		{"Load", mtime, 2, 0}, {"Load", mtimecmp + 8, 8, 0}, {"Load", console, 2, 0}, {"Load", console, 4, 0}, {"Load", console, 8, 0},
	} {
		stops(t, k, machine(), b, 5, k.addr)
		k.name = "Store"
		stops(t, k, machine(), b, 7, k.addr)
	}
}

// TestB2Console: a load takes a byte of input just where it does not trap, and one alone; a load of the line status tells a loss once.
func TestB2Console(t *testing.T) {
	b := of(t, rich(8))
	for _, c := range []api.Cpu{{}, user(0), user(6), borrowed(user(4), 0), borrowed(api.Cpu{}, 0), with(machine(), 0, 0x98, console/4)} {
		stops(t, call{"Load", console, 1, 0}, c, b, 5, console)
		stops(t, call{"Load", console + 5, 1, 0}, c, b, 5, console+5)
	}
	for _, size := range []int{-1, 0, 2, 3, 4, 8, 9} {
		cause := uint64(5)
		if size&(size-1) != 0 || size < 1 {
			cause = 4
		}
		stops(t, call{"Load", console, size, 0}, machine(), b, cause, console)
	}
	for _, size := range []int{4, 8} {
		stops(t, call{"Reserve", console, size, 0}, machine(), b, 5, console)
		stops(t, call{"Conditional", console, size, 0}, holding(machine(), console, size), b, 7, console)
	}
	for _, op := range amos() {
		stops(t, call{"Amo", console, op, 0}, machine(), b, 7, console)
	}
	fetchStops(t, machine(), b, console, console)
	for i, c := range []api.Cpu{machine(), user(1), borrowed(user(1), 0), borrowed(user(0), 3), user(0x81)} {
		loads(t, call{"Load", console, 1, 0}, c, b, uint64("input"[i]))
		if left := string(b.State().Input); left != "input"[i+1:] {
			t.Errorf("the input is %q behind %d loads", left, i+1)
		}
	}
	loads(t, call{"Load", console, 1, 0}, machine(), b, 0)
	loads(t, call{"Load", console + 5, 1, 0}, machine(), b, 98)
	loads(t, call{"Load", console + 5, 1, 0}, machine(), b, 96)
}

// TestB3Console: a store sends its byte and takes no input, in the modes that may.
func TestB3Console(t *testing.T) {
	b := of(t, rich(8))
	for _, c := range []api.Cpu{{}, user(1), user(5), borrowed(user(5), 0), with(machine(), 0, 0x91, console/4)} {
		stops(t, call{"Store", console, 1, 'x'}, c, b, 7, console)
	}
	gives(t, call{"Store", console, 1, 0x5a41}, machine(), b, answer{}, api.Res{})
	gives(t, call{"Store", console, 1, 'B'}, user(3), b, answer{}, api.Res{})
	if s := b.State(); string(s.Output) != "outAB" || string(s.Input) != "input" {
		t.Errorf("the output is %q, the input %q", s.Output, s.Input)
	}
}

// TestB3Bytes: the lower bytes of v are stored, and no byte else changes.
func TestB3Bytes(t *testing.T) {
	const v = 0xf1e2d3c4b5a69788
	for _, size := range []int{1, 2, 4, 8} {
		for i := 0; i < 16; i += size {
			for _, c := range []api.Cpu{machine(), user(3), borrowed(user(3), 0), borrowed(user(0), 3)} {
				b := eight(t)
				was := b.State()
				gives(t, call{"Store", ram + uint64(i), size, v}, c, b, answer{}, api.Res{})
				for k := range size {
					was.Ram[i+k] = byte(uint64(v) >> (8 * k))
				}
				if is := b.State(); !sameState(is, was) {
					t.Errorf("%d bytes stored at %d: RAM is %x, want %x", size, i, is.Ram, was.Ram)
				}
			}
		}
	}
}

// TestB3Fault: W counts, and neither R nor X does; a lock holds in M too.
func TestB3Fault(t *testing.T) {
	b := eight(t)
	for _, bits := range []uint8{0, 1, 4, 5} {
		for _, c := range []api.Cpu{user(bits), user(0x80 | bits), borrowed(user(bits), 0), borrowed(user(0x80|bits), 3)} {
			stops(t, call{"Store", ram, 4, 1}, c, b, 7, ram)
		}
		gives(t, call{"Store", ram, 1, 0x11}, borrowed(user(bits), 3), b, answer{}, api.Res{})
	}
	half := with(machine(), 0, 0x17, ram/4)
	stops(t, call{"Store", ram, 8, 1}, half, b, 7, ram)
	stops(t, call{"Load", ram, 8, 0}, half, b, 5, ram)
	gives(t, call{"Store", ram, 4, 0xc4332211}, half, b, answer{}, api.Res{})
	if !sameState(b.State(), eight(t).State()) {
		t.Errorf("RAM is %x", b.State().Ram)
	}
}

// TestB3Devices: stores reach devices, the power switch too.
func TestB3Devices(t *testing.T) {
	b := of(t, rich(8))
	gives(t, call{"Store", msip, 4, 0xfffffffe}, machine(), b, answer{}, api.Res{})
	gives(t, call{"Store", mtimecmp, 8, 5}, user(3), b, answer{}, api.Res{})
	gives(t, call{"Store", mtime + 4, 4, 0x1ffffffff}, machine(), b, answer{}, api.Res{})
	gives(t, call{"Store", finisher, 4, 0x73333}, machine(), b, answer{}, api.Res{})
	want := rich(8)
	want.Msip, want.Mtimecmp, want.Mtime, want.Off, want.Code = 0, 5, 0xffffffff89abcdef, 2, 7
	if s := b.State(); !sameState(s, want) {
		t.Errorf("the bus is\n%+v, want\n%+v", s, want)
	}
}

// TestB3Res: a store that meets a byte of the reservation ends it: each place and size around one of 4 and one of 8 bytes.
func TestB3Res(t *testing.T) {
	for _, res := range []api.Res{{Valid: true, Addr: ram + 8, Size: 4}, {Valid: true, Addr: ram + 12, Size: 4}, {Valid: true, Addr: ram + 8, Size: 8}} {
		first, end := int(res.Addr-ram), int(res.Addr-ram)+res.Size
		for _, size := range []int{1, 2, 4, 8} {
			for i := 0; i < little; i += size {
				c := holding(machine(), res.Addr, res.Size)
				left := res
				if i < end && i+size > first {
					left = api.Res{}
				}
				gives(t, call{"Store", ram + uint64(i), size, 0}, c, of(t, rich(little)), answer{}, left)
			}
		}
	}
	c := holding(machine(), ram+8, 8)
	b := of(t, rich(little))
	gives(t, call{"Store", ram + 7, 1, 0}, c, b, answer{}, c.Res)
	gives(t, call{"Store", ram + 8, 1, 0}, c, b, answer{}, api.Res{})
	gives(t, call{"Store", ram + 15, 1, 0}, c, b, answer{}, api.Res{})
	gives(t, call{"Store", ram + 16, 1, 0}, c, b, answer{}, c.Res)
	stops(t, call{"Store", ram + 9, 2, 0}, c, b, 6, ram+9)
}

// TestB3ResElsewhere: a Cpu may come with a reservation of no RAM: a store to that device ends it, one elsewhere does not; nor does one ahead of it where addresses end.
func TestB3ResElsewhere(t *testing.T) {
	b := of(t, rich(little))
	c := holding(machine(), mtime, 8)
	gives(t, call{"Store", mtime + 4, 4, 0}, c, b, answer{}, api.Res{})
	gives(t, call{"Store", mtimecmp, 8, 0}, c, b, answer{}, c.Res)
	for _, addr := range []uint64{0, last - 7, 1<<32 + ram, 1<<63 + ram} {
		c = holding(machine(), addr, 8)
		gives(t, call{"Store", ram, 8, 0}, c, b, answer{}, c.Res)
	}
}
