package bus_test

import (
	"bytes"
	"testing"

	"anvil/api"
)

// TestP3_6Input: a queue with some bytes in it takes as many as there is room for.
func TestP3_6Input(t *testing.T) {
	more := make([]byte, 200)
	for i := range more {
		more[i] = byte(200 - i)
	}
	for had := range 65 {
		for _, n := range []int{0, 1, 2, 62, 63, 64, 65, 66, 128, 200} {
			for _, overrun := range []bool{false, true} {
				s := rich()
				s.Input, s.Overrun = bytes.Repeat([]byte{'q'}, had), overrun
				b := of(t, s)
				b.Begin(api.World{Ext: true, Soft: true, Input: more[:n]})
				fits := min(n, 64-had)
				s.Input = append(s.Input, more[:fits]...)
				s.Overrun = overrun || fits < n
				if got := b.State(); !same(got, s) {
					t.Errorf("%d bytes behind %d: the state is\n%s, want\n%s", n, had, brief(got), brief(s))
				}
			}
		}
	}
}

func TestP3_6Lines(t *testing.T) {
	for bits := range 64 {
		was := func(bit int) bool { return bits>>bit&1 == 1 }
		s := rich()
		s.Ext, s.Soft = was(0), was(1)
		b := of(t, s)
		b.Begin(api.World{Tick: was(2), Ext: was(3), Soft: was(4)})
		s.Ext, s.Soft = was(3), was(4)
		if was(2) {
			s.Mtime++
		}
		wantState(t, "behind a world", b, s)
	}
}

func TestP3_6Tick(t *testing.T) {
	s := rich()
	s.Mtime = last - 1
	b := of(t, s)
	for _, want := range []uint64{last, 0, 1} {
		b.Begin(api.World{Tick: true})
		b.Begin(api.World{})
		if b.Time() != want {
			t.Errorf("Time answers %#x, want %#x", b.Time(), want)
		}
	}
}

func TestP3_7Mip(t *testing.T) {
	for bits := range 32 {
		is := func(bit int) bool { return bits>>bit&1 == 1 }
		for ier := range uint8(16) {
			for _, times := range [][2]uint64{{0, 0}, {0, 1}, {1, 0}, {1 << 63, 1<<63 - 1}, {1<<63 - 1, 1 << 63}, {last, last}, {last - 1, last}, {last, 0}, {0, last}} {
				s := api.Bus{Ram: make([]byte, 8), Ier: ier, Mtime: times[0], Mtimecmp: times[1], Soft: is(0), Ext: is(1), Overrun: is(4), Lcr: 255, Mcr: 31}
				want := uint64(0)
				if is(2) {
					s.Msip = 1
				}
				if is(3) {
					s.Input = []byte{0}
				}
				if is(0) || is(2) {
					want += 1 << 3
				}
				if times[0] >= times[1] {
					want += 1 << 7
				}
				if is(1) || is(3) && ier&1 == 1 {
					want += 1 << 11
				}
				wantMip(t, brief(s), of(t, s), want)
			}
		}
	}
}

// TestP3_7Line: the line goes up and down with the queue and the enable bit.
func TestP3_7Line(t *testing.T) {
	b := made(t, 8)
	b.Begin(api.World{Input: []byte("a")})
	wantMip(t, "not enabled", b, 0)
	wantStore(t, b, console+1, 1, 0xfe)
	wantMip(t, "other bits enabled", b, 0)
	wantStore(t, b, console+1, 1, 1)
	wantMip(t, "enabled", b, 0x800)
	wantStore(t, b, console+2, 1, 0xfd)
	wantMip(t, "not emptied", b, 0x800)
	wantStore(t, b, console+2, 1, 2)
	wantMip(t, "emptied", b, 0)
	b.Begin(api.World{Input: []byte("b")})
	wantMip(t, "filled", b, 0x800)
	wantLoad(t, b, console, 1, 'b')
	wantMip(t, "read", b, 0)
	b.Begin(api.World{Ext: true})
	wantMip(t, "the world's line", b, 0x800)
	b.Begin(api.World{})
	wantMip(t, "no line", b, 0)
}

func TestP3_7Told(t *testing.T) {
	for _, s := range possible() {
		b := of(t, s)
		if b.Time() != s.Mtime {
			t.Errorf("Time answers %#x, want %#x", b.Time(), s.Mtime)
		}
		wantOff(t, "a state's", b, s.Off, s.Code)
		if !bytes.Equal(b.Output(), s.Output) {
			t.Errorf("Output answers %x, want %x", b.Output(), s.Output)
		}
		wantState(t, "behind looking", b, s)
	}
}

// TestP3_7Behind: with the power off loads and stores, Peek and Poke work on.
func TestP3_7Behind(t *testing.T) {
	s := off(rich(), 2, 3)
	b := of(t, s)
	wantLoad(t, b, console, 1, 'i')
	wantLoad(t, b, console+5, 1, 99)
	wantStore(t, b, console, 1, '!')
	wantStore(t, b, ram, 2, 0xbeef)
	wantStore(t, b, mtime+4, 4, 1)
	wantPoke(t, b, ram+3, []byte{1}, api.OK)
	wantPeek(t, b, ram, 5, []byte{0xef, 0xbe, 0xd2, 1, 0xb4})
	s.Input, s.Overrun, s.Output, s.Mtime = []byte("nput"), false, []byte("out!"), 0x189abcdef
	s.Ram[0], s.Ram[1], s.Ram[3] = 0xef, 0xbe, 1
	wantState(t, "behind it all", b, s)
}

func TestExamplesOfTheConsole(t *testing.T) {
	b := made(t, 16)
	b.Begin(api.World{Input: []byte("ab")})
	wantLoad(t, b, 0x10000005, 1, 97)
	wantStore(t, b, 0x10000001, 1, 0xff)
	if s := b.State(); s.Ier != 15 {
		t.Errorf("Ier is %d", s.Ier)
	}
	wantMip(t, "two bytes wait", b, 0x800)
	wantLoad(t, b, 0x10000002, 1, 4)
	wantLoad(t, b, 0x10000000, 1, 0x61)
	wantLoad(t, b, 0x10000000, 1, 0x62)
	wantLoad(t, b, 0x10000000, 1, 0)
	wantMip(t, "none waits", b, 0)
	wantLoad(t, b, 0x10000002, 1, 1)

	input := make([]byte, 65)
	for i := range input {
		input[i] = byte(i)
	}
	b.Begin(api.World{Input: input})
	if s := b.State(); !bytes.Equal(s.Input, input[:64]) || !s.Overrun {
		t.Errorf("Input is %x, Overrun %v", s.Input, s.Overrun)
	}
	wantLoad(t, b, 0x10000005, 1, 99)
	wantLoad(t, b, 0x10000005, 1, 97)
	wantStore(t, b, 0x10000002, 1, 2)
	if s := b.State(); len(s.Input) != 0 {
		t.Errorf("Input is %x", s.Input)
	}
	wantLoad(t, b, 0x10000005, 1, 96)
}

func TestExamplesOfThePower(t *testing.T) {
	b := made(t, 16)
	wantStore(t, b, 0x100000, 4, 0x73333)
	wantOff(t, "failed", b, 2, 7)
	wantStore(t, b, 0x100000, 4, 0x5555)
	wantOff(t, "a second time", b, 2, 7)
	b.Begin(api.World{Tick: true})
	if b.Time() != 0 {
		t.Errorf("Time answers %d", b.Time())
	}
	b = made(t, 16)
	wantStore(t, b, 0x100000, 4, 0x7777)
	wantOff(t, "nothing", b, 0, 0)
	wantStore(t, b, 0x100000, 4, 0x15555)
	wantOff(t, "passed", b, 1, 0)
}
