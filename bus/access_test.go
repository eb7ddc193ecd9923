package bus_test

import (
	"testing"

	"anvil/api"
	"anvil/bus"
)

func TestP3_4Ram(t *testing.T) {
	s := rich()
	b := of(t, s)
	for _, size := range []int{1, 2, 4, 8} {
		for at := 0; at < len(s.Ram); at += size {
			want := uint64(0)
			for i := range size {
				want += uint64(s.Ram[at+i]) << (8 * i)
			}
			wantLoad(t, b, ram+uint64(at), size, want)
		}
	}
	wantState(t, "behind loads of RAM", b, s)
}

func TestP3_4Registers(t *testing.T) {
	s := rich()
	b := of(t, s)
	wantLoad(t, b, finisher, 4, 0)
	wantLoad(t, b, msip, 4, 1)
	wantLoad(t, b, mtimecmp, 8, 0xfedcba9876543210)
	wantLoad(t, b, mtimecmp, 4, 0x76543210)
	wantLoad(t, b, mtimecmp+4, 4, 0xfedcba98)
	wantLoad(t, b, mtime, 8, 0x0123456789abcdef)
	wantLoad(t, b, mtime, 4, 0x89abcdef)
	wantLoad(t, b, mtime+4, 4, 0x01234567)
	wantLoad(t, b, console+1, 1, 9)
	wantLoad(t, b, console+2, 1, 4)
	wantLoad(t, b, console+3, 1, 0x83)
	wantLoad(t, b, console+4, 1, 0x15)
	wantLoad(t, b, console+6, 1, 0)
	wantLoad(t, b, console+7, 1, 0xc7)
	wantState(t, "behind loads of registers", b, s)
	wantLoad(t, of(t, off(s, 1, 0)), finisher, 4, 0)
	wantLoad(t, of(t, off(s, 2, 7)), finisher, 4, 0)
	wantLoad(t, made(t, 8), msip, 4, 0)
}

func TestP3_4Data(t *testing.T) {
	s := rich()
	s.Input = []byte{0xff, 0, 0x80}
	b := of(t, s)
	for len(s.Input) > 0 {
		wantLoad(t, b, console, 1, uint64(s.Input[0]))
		s.Input = s.Input[1:]
		wantState(t, "behind a load of the data", b, s)
	}
	wantLoad(t, b, console, 1, 0)
	wantState(t, "behind a load with no data", b, s)
}

func TestP3_4Reason(t *testing.T) {
	for ier := range uint8(16) {
		for _, input := range []string{"", "a"} {
			s := rich()
			s.Ier, s.Input = ier, []byte(input)
			want := uint64(1)
			if ier%2 == 1 && input != "" {
				want = 4
			}
			wantLoad(t, of(t, s), console+2, 1, want)
		}
	}
}

func TestP3_4Status(t *testing.T) {
	for _, x := range []struct {
		input, output int
		overrun       bool
		want          uint64
	}{
		{0, 0, false, 96}, {1, 0, false, 97}, {0, 0, true, 98}, {64, 0, true, 99}, {63, 4095, true, 99},
		{0, 4095, false, 96}, {0, 4096, false, 0}, {1, 4096, false, 1}, {0, 4096, true, 2}, {64, 4096, true, 3},
	} {
		s := rich()
		s.Input, s.Output, s.Overrun = make([]byte, x.input), make([]byte, x.output), x.overrun
		b := of(t, s)
		wantLoad(t, b, console+5, 1, x.want)
		s.Overrun = false
		wantState(t, "behind a load of the status", b, s)
		wantLoad(t, b, console+5, 1, x.want&^2)
	}
}

func TestP3_5Ram(t *testing.T) {
	for _, size := range []int{1, 2, 4, 8} {
		for at := 0; at < 16; at += size {
			s := rich()
			b := of(t, s)
			wantStore(t, b, ram+uint64(at), size, 0x1122334455667788)
			for i := range size {
				s.Ram[at+i] = byte(0x88 - 0x11*i)
			}
			wantState(t, "behind a store to RAM", b, s)
		}
	}
}

// TestP3_5RamEnds: the first and the last bytes of the smallest and the greatest RAM.
func TestP3_5RamEnds(t *testing.T) {
	for _, bytes := range []uint64{8, 65536} {
		b := made(t, int(bytes))
		for _, size := range []uint64{1, 2, 4, 8} {
			wantStore(t, b, ram, int(size), last)
			wantLoad(t, b, ram, int(size), last>>(64-8*size))
			wantStore(t, b, ram, int(size), 0)
			wantStore(t, b, ram+bytes-size, int(size), last)
			wantLoad(t, b, ram+bytes-size, int(size), last>>(64-8*size))
			wantStore(t, b, ram+bytes-size, int(size), 0)
			wantNoLoad(t, b, ram+bytes, int(size))
			wantNoLoad(t, b, ram-size, int(size))
			if b.Store(ram+bytes, int(size), 1) || b.Store(ram-size, int(size), 1) || size > 1 && b.Store(ram+bytes-size/2, int(size), 1) {
				t.Errorf("a store of %d bytes outside of RAM or across its end", size)
			}
		}
		wantState(t, "behind it all", b, made(t, int(bytes)).State())
	}
}

// change is a store to a device and what it makes of a state.
type change struct {
	addr uint64
	size int
	v    uint64
	make func(s *api.Bus)
}

func stays(*api.Bus) {}

func changes() []change {
	return []change{
		{msip, 4, 0, func(s *api.Bus) { s.Msip = 0 }},
		{msip, 4, 0xfffffffffffffffe, func(s *api.Bus) { s.Msip = 0 }},
		{msip, 4, 1 << 32, func(s *api.Bus) { s.Msip = 0 }},
		{msip, 4, 1, func(s *api.Bus) { s.Msip = 1 }},
		{msip, 4, 3, func(s *api.Bus) { s.Msip = 1 }},
		{mtimecmp, 8, 5, func(s *api.Bus) { s.Mtimecmp = 5 }},
		{mtimecmp, 8, last, func(s *api.Bus) { s.Mtimecmp = last }},
		{mtimecmp, 4, 0xaaaaaaaa11223344, func(s *api.Bus) { s.Mtimecmp = 0xfedcba9811223344 }},
		{mtimecmp + 4, 4, 0xaaaaaaaa11223344, func(s *api.Bus) { s.Mtimecmp = 0x1122334476543210 }},
		{mtimecmp, 4, last, func(s *api.Bus) { s.Mtimecmp = 0xfedcba98ffffffff }},
		{mtimecmp + 4, 4, 0, func(s *api.Bus) { s.Mtimecmp = 0x76543210 }},
		{mtime, 8, 5, func(s *api.Bus) { s.Mtime = 5 }},
		{mtime, 8, last, func(s *api.Bus) { s.Mtime = last }},
		{mtime, 4, 0xaaaaaaaa11223344, func(s *api.Bus) { s.Mtime = 0x0123456711223344 }},
		{mtime + 4, 4, 0xaaaaaaaa11223344, func(s *api.Bus) { s.Mtime = 0x1122334489abcdef }},
		{mtime, 4, 0, func(s *api.Bus) { s.Mtime = 0x0123456700000000 }},
		{mtime + 4, 4, last, func(s *api.Bus) { s.Mtime = 0xffffffff89abcdef }},
		{console, 1, 'p', func(s *api.Bus) { s.Output = []byte("outp") }},
		{console, 1, 0x1100, func(s *api.Bus) { s.Output = []byte("out\x00") }},
		{console, 1, last, func(s *api.Bus) { s.Output = []byte("out\xff") }},
		{console + 1, 1, 0xf6, func(s *api.Bus) { s.Ier = 6 }},
		{console + 1, 1, last, func(s *api.Bus) { s.Ier = 15 }},
		{console + 1, 1, 0x1f0, func(s *api.Bus) { s.Ier = 0 }},
		{console + 2, 1, 2, func(s *api.Bus) { s.Input = nil }},
		{console + 2, 1, 0xff, func(s *api.Bus) { s.Input = nil }},
		{console + 2, 1, 0xfd, stays},
		{console + 2, 1, 0, stays},
		{console + 2, 1, 0x200, stays},
		{console + 3, 1, 0x1a5, func(s *api.Bus) { s.Lcr = 0xa5 }},
		{console + 3, 1, 0x100, func(s *api.Bus) { s.Lcr = 0 }},
		{console + 4, 1, 0x1ea, func(s *api.Bus) { s.Mcr = 10 }},
		{console + 4, 1, last, func(s *api.Bus) { s.Mcr = 31 }},
		{console + 5, 1, 0, stays},
		{console + 5, 1, last, stays},
		{console + 6, 1, last, stays},
		{console + 7, 1, 0x15a, func(s *api.Bus) { s.Scratch = 0x5a }},
		{console + 7, 1, last, func(s *api.Bus) { s.Scratch = 0xff }},
	}
}

func TestP3_5Registers(t *testing.T) {
	for _, x := range changes() {
		for _, s := range []api.Bus{rich(), off(rich(), 1, 0), off(rich(), 2, 9)} {
			b := of(t, s)
			wantStore(t, b, x.addr, x.size, x.v)
			x.make(&s)
			wantState(t, "behind a store to a register", b, s)
		}
	}
}

func TestP3_5Finisher(t *testing.T) {
	for _, x := range []struct {
		v         uint64
		how, code int
	}{
		{0x5555, 1, 0}, {0x15555, 1, 0}, {0xffff5555, 1, 0}, {0xffffffff_00005555, 1, 0},
		{0x3333, 2, 0}, {0x13333, 2, 1}, {0x73333, 2, 7}, {0xffff3333, 2, 65535}, {0xffffffff_00053333, 2, 5}, {0x55553333, 2, 0x5555},
		{0, 0, 0}, {0x7777, 0, 0}, {0x5554, 0, 0}, {0x5556, 0, 0}, {0x3332, 0, 0}, {0x55550000, 0, 0}, {0x33330000, 0, 0}, {0x5555_00000000, 0, 0}, {last, 0, 0}, {0x55, 0, 0}, {0x33, 0, 0},
	} {
		s := rich()
		b := of(t, s)
		wantStore(t, b, finisher, 4, x.v)
		wantOff(t, "behind the store", b, x.how, x.code)
		wantState(t, "behind the store", b, off(s, x.how, x.code))
	}
}

// TestP3_5Output: MaxOutput bytes, and more, which are lost.
func TestP3_5Output(t *testing.T) {
	b := made(t, 8)
	want := make([]byte, 4096)
	for i := range want {
		wantLoad(t, b, console+5, 1, 96)
		want[i] = byte(i * 7 / 5)
		wantStore(t, b, console, 1, uint64(want[i]))
	}
	s := api.Bus{Ram: make([]byte, 8), Mtimecmp: last, Output: want}
	wantState(t, "with all the output that there can be", b, s)
	wantLoad(t, b, console+5, 1, 0)
	for range 3 {
		wantStore(t, b, console, 1, 0xaa)
		wantState(t, "with more output than there can be", b, s)
	}
	wantStore(t, b, console+2, 1, 2)
	wantLoad(t, b, console+5, 1, 0)
}

func TestExamplesOfRam(t *testing.T) {
	b := made(t, 16)
	wantLoad(t, b, 0x80000008, 8, 0)
	wantStore(t, b, 0x80000008, 8, 0x1122334455667788)
	wantLoad(t, b, 0x80000008, 1, 0x88)
	wantLoad(t, b, 0x8000000c, 4, 0x11223344)
	wantLoad(t, b, 0x8000000a, 2, 0x5566)
	wantNoLoad(t, b, 0x8000000c, 8)
	wantNoLoad(t, b, 0x80000010, 1)
	wantNoLoad(t, b, 0x8000000e, 4)

	wantStore(t, b, 0x80000000, 1, 0xabcd)
	wantLoad(t, b, 0x80000000, 2, 0xcd)
	wantPeek(t, b, 0x80000007, 3, []byte{0, 0x88, 0x77})
	wantNoPeek(t, b, 0x8000000f, 2, api.ErrUnmapped)
	wantPeek(t, b, 0, 0, nil)
	wantNoPeek(t, b, 0x80000000, -1, api.ErrArg)
	wantPoke(t, b, 0x80000001, []byte{1, 2}, api.OK)
}

func TestExamplesOfTheTimer(t *testing.T) {
	b := made(t, 16)
	wantLoad(t, b, 0x100000, 4, 0)
	wantNoLoad(t, b, 0x100000, 8)
	wantNoLoad(t, b, 0x100004, 4)
	wantNoLoad(t, b, 0x2000000, 8)
	wantNoLoad(t, b, 0x2004002, 4)
	wantNoLoad(t, b, 0x200c000, 4)
	wantLoad(t, b, 0x2004000, 8, 0xffffffffffffffff)
	wantStore(t, b, 0x2004004, 4, 0x1ffffffff)
	wantLoad(t, b, 0x2004000, 8, 0xffffffffffffffff)
	wantStore(t, b, 0x2004004, 4, 7)
	wantLoad(t, b, 0x2004000, 8, 0x7ffffffff)

	wantStore(t, b, 0x2000000, 4, 0xfffffffe)
	wantLoad(t, b, 0x2000000, 4, 0)
	wantStore(t, b, 0x2000000, 4, 3)
	wantLoad(t, b, 0x2000000, 4, 1)
	wantMip(t, "msip", b, 8)

	b = made(t, 16)
	wantStore(t, b, 0x2004000, 8, 2)
	b.Begin(api.World{Tick: true})
	wantTick(t, b, 1, 0)
	b.Begin(api.World{Tick: true})
	wantTick(t, b, 2, 0x80)
	wantStore(t, b, 0x200bff8, 8, last)
	b.Begin(api.World{Tick: true})
	wantTick(t, b, 0, 0)
}

func wantTick(t *testing.T, b *bus.Bus, time, mip uint64) {
	t.Helper()
	if b.Time() != time {
		t.Errorf("Time answers %d, want %d", b.Time(), time)
	}
	wantMip(t, "behind a tick", b, mip)
}
