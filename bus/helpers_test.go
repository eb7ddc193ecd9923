package bus_test

import (
	"bytes"
	"fmt"
	"math"
	"math/rand/v2"
	"testing"

	"anvil/api"
	"anvil/bus"
)

// The addresses as the document writes them.
const (
	finisher = 0x100000
	msip     = 0x2000000
	mtimecmp = 0x2004000
	mtime    = 0x200bff8
	console  = 0x10000000
	ram      = 0x80000000
	last     = math.MaxUint64
)

// rich is a state with something in every field but Off and Code.
func rich() api.Bus {
	return api.Bus{
		Ram:  []byte{0xf0, 0xe1, 0xd2, 0xc3, 0xb4, 0xa5, 0x96, 0x87, 0x78, 0x69, 0x5a, 0x4b, 0x3c, 0x2d, 0x1e, 0x0f},
		Msip: 1, Mtimecmp: 0xfedcba9876543210, Mtime: 0x0123456789abcdef,
		Ext: true, Soft: true,
		Ier: 9, Lcr: 0x83, Mcr: 0x15, Scratch: 0xc7, Overrun: true,
		Input: []byte("input"), Output: []byte("out"),
	}
}

// full is a state in which every field is as great as it can be.
func full() api.Bus {
	return api.Bus{
		Ram:  bytes.Repeat([]byte{0xff}, 65536),
		Msip: 1, Mtimecmp: last, Mtime: last,
		Ext: true, Soft: true,
		Ier: 15, Lcr: 255, Mcr: 31, Scratch: 255, Overrun: true,
		Input: bytes.Repeat([]byte{0xfe}, 64), Output: bytes.Repeat([]byte{0xfd}, 4096),
		Off: 2, Code: 65535,
	}
}

// off is a state with the power switch standing so.
func off(s api.Bus, how, code int) api.Bus {
	s.Off, s.Code = how, code
	return s
}

func made(t *testing.T, size int) *bus.Bus {
	t.Helper()
	b, e := bus.New(size)
	if b == nil || e != api.OK {
		t.Fatalf("New(%d) answers error %d", size, e)
	}
	return b
}

func of(t *testing.T, s api.Bus) *bus.Bus {
	t.Helper()
	b, e := bus.From(s)
	if b == nil || e != api.OK {
		t.Fatalf("From(%s) answers error %d", brief(s), e)
	}
	return b
}

// same compares states; nil and an empty list are the same.
func same(a, b api.Bus) bool { return brief(a) == brief(b) }

// brief tells a state in one line, with every byte of its lists.
func brief(s api.Bus) string {
	return fmt.Sprintf("ram %x msip %d mtimecmp %#x mtime %#x ext %v soft %v ier %d lcr %d mcr %d scratch %d overrun %v input %x output %x off %d code %d",
		s.Ram, s.Msip, s.Mtimecmp, s.Mtime, s.Ext, s.Soft, s.Ier, s.Lcr, s.Mcr, s.Scratch, s.Overrun, s.Input, s.Output, s.Off, s.Code)
}

// copied is a state with lists of its own.
func copied(s api.Bus) api.Bus {
	s.Ram, s.Input, s.Output = bytes.Clone(s.Ram), bytes.Clone(s.Input), bytes.Clone(s.Output)
	return s
}

func wantState(t *testing.T, what string, b *bus.Bus, want api.Bus) {
	t.Helper()
	if s := b.State(); !same(s, want) {
		t.Errorf("%s: the state is\n%s, want\n%s", what, brief(s), brief(want))
	}
}

func wantLoad(t *testing.T, b *bus.Bus, addr uint64, size int, want uint64) {
	t.Helper()
	if v, there := b.Load(addr, size); v != want || !there {
		t.Errorf("Load(%#x, %d) answers %#x and %v, want %#x and true", addr, size, v, there, want)
	}
}

func wantNoLoad(t *testing.T, b *bus.Bus, addr uint64, size int) {
	t.Helper()
	if v, there := b.Load(addr, size); v != 0 || there {
		t.Errorf("Load(%#x, %d) answers %#x and %v, want 0 and false", addr, size, v, there)
	}
}

func wantStore(t *testing.T, b *bus.Bus, addr uint64, size int, v uint64) {
	t.Helper()
	if !b.Store(addr, size, v) {
		t.Errorf("Store(%#x, %d, %#x) answers false, want true", addr, size, v)
	}
}

func wantMip(t *testing.T, what string, b *bus.Bus, want uint64) {
	t.Helper()
	if v := b.Mip(); v != want {
		t.Errorf("%s: Mip answers %#x, want %#x", what, v, want)
	}
}

func wantOff(t *testing.T, what string, b *bus.Bus, how, code int) {
	t.Helper()
	if h, c := b.Off(); h != how || c != code {
		t.Errorf("%s: Off answers %d, %d, want %d, %d", what, h, c, how, code)
	}
}

func wantPeek(t *testing.T, b *bus.Bus, addr uint64, n int, want []byte) {
	t.Helper()
	if p, e := b.Peek(addr, n); e != api.OK || !bytes.Equal(p, want) {
		t.Errorf("Peek(%#x, %d) answers %x and error %d, want %x", addr, n, p, e, want)
	}
}

func wantNoPeek(t *testing.T, b *bus.Bus, addr uint64, n int, want api.Errno) {
	t.Helper()
	if p, e := b.Peek(addr, n); e != want || p != nil {
		t.Errorf("Peek(%#x, %d) answers %x and error %d, want nil and error %d", addr, n, p, e, want)
	}
}

func wantPoke(t *testing.T, b *bus.Bus, addr uint64, p []byte, want api.Errno) {
	t.Helper()
	if e := b.Poke(addr, p); e != want {
		t.Errorf("Poke(%#x, %x) answers error %d, want %d", addr, p, e, want)
	}
}

// dice are the same in every run.
func dice(seed uint64) *rand.Rand { return rand.New(rand.NewPCG(seed, 3)) }

// places are addresses at and around everything that could stand on a bus with so many bytes of RAM, the same ones with a bit more above the low half, and both ends of the addresses.
func places(size int) []uint64 {
	var list []uint64
	for _, base := range []uint64{0, finisher, msip, mtimecmp, mtime, console, ram, ram + uint64(size), 1 << 31, 1 << 32, 1 << 63} {
		for _, high := range []uint64{0, 1 << 32, 1 << 63} {
			for d := range uint64(37) {
				list = append(list, base+high+d-18)
			}
		}
	}
	return list
}

// sizes are the sizes that a test of accesses goes through: those that are there, those around them, and those that look like them in fewer bits.
func sizes() []int {
	list := []int{math.MinInt, math.MinInt + 1, math.MinInt + 8, math.MaxInt, math.MaxInt - 7, 1<<32 + 1, 1<<32 + 4, 1<<32 + 8, 1 << 31, 1<<8 + 1, 1<<16 + 4, 32, 64}
	for size := -9; size <= 17; size++ {
		list = append(list, size)
	}
	return list
}
