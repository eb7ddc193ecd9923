package valid_test

import (
	"math"
	"testing"

	"anvil/api"
	"anvil/valid"
)

const ram = 0x80000000

// TestRam: a multiple of 8 from 8 to MaxRam; a number below 0 comes in as a great one.
func TestRam(t *testing.T) {
	for _, size := range []uint64{8, 16, 65528, 65536} {
		if !valid.Ram(size) {
			t.Errorf("RAM can't have %d bytes", size)
		}
	}
	for _, size := range []uint64{0, 1, 4, 7, 9, 12, 65535, 65544, 1 << 32, 1<<32 + 8, 1 << 63, math.MaxUint64 - 7, math.MaxUint64} {
		if valid.Ram(size) {
			t.Errorf("RAM can have %d bytes", size)
		}
	}
}

// TestPlace: every part of any size at and around the ends of RAM, and those whose end would wrap.
func TestPlace(t *testing.T) {
	const size = 16
	for addr := uint64(ram - 3); addr < ram+size+4; addr++ {
		for n := range uint64(size + 4) {
			want := addr >= ram && addr+n <= ram+size
			if is := valid.Place(api.Seg{Addr: addr, Size: n}, size); is != want {
				t.Errorf("%d bytes at %#x: %v", n, addr, is)
			}
		}
		for _, n := range []uint64{math.MaxUint64, math.MaxUint64 - size, -addr, ram - addr, 1 << 63} {
			if n > size && valid.Place(api.Seg{Addr: addr, Size: n}, size) {
				t.Errorf("%#x bytes at %#x lie in RAM", n, addr)
			}
		}
	}
	for _, addr := range []uint64{0, math.MaxUint64, 1 << 63, 1<<63 + ram, 1<<32 + ram} {
		if valid.Place(api.Seg{Addr: addr}, size) {
			t.Errorf("%#x lies in RAM", addr)
		}
	}
}

// TestDeck: each bound of a deck, and one beyond it.
func TestDeck(t *testing.T) {
	base := func() api.Deck {
		return api.Deck{Ram: 16, Parts: []api.Seg{{Addr: ram, Size: 16, Data: make([]byte, 16)}, {Addr: ram + 16}}, Worlds: make([]api.World, 2)}
	}
	for name, one := range map[string]struct {
		change func(d *api.Deck)
		want   bool
	}{
		"as it is":      {func(d *api.Deck) {}, true},
		"flags":         {func(d *api.Deck) { d.Parts[0].Flags, d.Parts[1].Flags = -1, 8 }, true},
		"parts":         {func(d *api.Deck) { d.Parts = append(d.Parts, fourteen()...) }, true},
		"a part more":   {func(d *api.Deck) { d.Parts = append(d.Parts, append(fourteen(), fourteen()[0])...) }, false},
		"worlds":        {func(d *api.Deck) { d.Worlds = make([]api.World, 4000) }, true},
		"a world more":  {func(d *api.Deck) { d.Worlds = make([]api.World, 4001) }, false},
		"input":         {func(d *api.Deck) { d.Worlds[1].Input = make([]byte, 64) }, true},
		"a byte more":   {func(d *api.Deck) { d.Worlds[1].Input = make([]byte, 65) }, false},
		"data":          {func(d *api.Deck) { d.Parts[0].Data = make([]byte, 17) }, false},
		"data of none":  {func(d *api.Deck) { d.Parts[1].Data = make([]byte, 1) }, false},
		"a size":        {func(d *api.Deck) { d.Parts[0].Size = 17 }, false},
		"a place":       {func(d *api.Deck) { d.Parts[1].Addr++ }, false},
		"RAM":           {func(d *api.Deck) { d.Ram = 12 }, false},
		"RAM below 0":   {func(d *api.Deck) { d.Ram = -8 }, false},
		"less RAM":      {func(d *api.Deck) { d.Ram = 8 }, false},
		"the most RAM":  {func(d *api.Deck) { d.Ram = 65536 }, true},
		"too much RAM":  {func(d *api.Deck) { d.Ram = 65544 }, false},
		"any Cpu, time": {func(d *api.Deck) { d.Cpu.Pc, d.Cpu.Mode, d.Mtime = 1, 9, math.MaxUint64 }, true},
	} {
		d := base()
		one.change(&d)
		if valid.Deck(d) != one.want {
			t.Errorf("%s: %v", name, !one.want)
		}
	}
}

// fourteen is fourteen empty parts.
func fourteen() []api.Seg {
	parts := make([]api.Seg, 14)
	for i := range parts {
		parts[i].Addr = ram
	}
	return parts
}
