package board_test

import (
	"math"
	"testing"

	"anvil/api"
	"anvil/board"
	"anvil/valid"
)

// little is a valid deck with 64 bytes of RAM: what a test spoils is one thing of it.
func little() api.Deck {
	d := plain(64)
	d.Parts = []api.Seg{{Addr: ram, Size: 64, Flags: 7, Data: bytesOf(0x00100093)}, {Addr: ram + 8, Size: 8}, {Addr: ram + 64}}
	d.Worlds = worlds(3)
	return d
}

// taken: with this change the deck must still be valid.
func taken(t *testing.T, name string, change func(d *api.Deck)) {
	t.Helper()
	d := little()
	change(&d)
	if b, e := board.New(d); b == nil || e != api.OK {
		t.Errorf("P15.1: %s: New answers error %d", name, e)
	}
	tr, e := board.Play(d)
	if e != api.OK || len(tr.Rows) != len(d.Worlds) {
		t.Errorf("P15.5: %s: Play answers error %d and %d rows", name, e, len(tr.Rows))
	}
	if !valid.Deck(d) {
		t.Errorf("%s: it is not valid", name)
	}
}

// spoilt: with this change the deck must be refused.
func spoilt(t *testing.T, name string, change func(d *api.Deck)) {
	t.Helper()
	d := little()
	change(&d)
	if b, e := board.New(d); b != nil || e != api.ErrBoard {
		t.Errorf("P15.1: %s: New answers %v, error %d", name, b, e)
	}
	tr, e := board.Play(d)
	if e != api.ErrBoard || tr.Rows != nil || tr.Output != nil || !sameTrace(tr, api.Trace{}) {
		t.Errorf("P15.5: %s: Play answers %+v, error %d", name, tr, e)
	}
	if valid.Deck(d) {
		t.Errorf("%s: it is valid", name)
	}
}

// TestP15_1Ram: RAM is a multiple of 8 from 8 to MaxRam.
func TestP15_1Ram(t *testing.T) {
	bare := func(size int) func(d *api.Deck) {
		return func(d *api.Deck) { d.Ram, d.Parts = size, nil }
	}
	for _, size := range []int{8, 16, 24, 4096, maxRam - 8, maxRam} {
		taken(t, "RAM", bare(size))
	}
	for _, size := range []int{
		0, 1, 4, 7, 9, 12, 15, -1, -8, -16, maxRam - 1, maxRam - 4, maxRam + 1, maxRam + 8, 2 * maxRam,
		1<<32 + 8, math.MaxInt, math.MaxInt - 7, math.MinInt, math.MinInt + 8,
	} {
		spoilt(t, "RAM", bare(size))
	}
}

// TestP15_1Parts: how many parts there are, and where they lie. No sum of an address and a size wraps.
func TestP15_1Parts(t *testing.T) {
	part := func(addr, size uint64, data int) func(d *api.Deck) {
		return func(d *api.Deck) { d.Parts[1] = api.Seg{Addr: addr, Size: size, Data: make([]byte, data)} }
	}
	many := func(n int) func(d *api.Deck) {
		return func(d *api.Deck) {
			d.Parts = make([]api.Seg, n)
			for i := range d.Parts {
				d.Parts[i].Addr = ram
			}
		}
	}
	for _, n := range []int{0, 1, maxParts - 1, maxParts} {
		taken(t, "parts", many(n))
	}
	spoilt(t, "parts", many(maxParts+1))
	spoilt(t, "parts", many(1000))
	for _, one := range []struct {
		addr, size uint64
		data       int
	}{
		{ram, 0, 0}, {ram + 63, 0, 0}, {ram + 64, 0, 0}, {ram, 64, 0}, {ram, 64, 64}, {ram, 63, 63}, {ram + 1, 63, 63},
		{ram + 63, 1, 1}, {ram + 63, 1, 0}, {ram + 56, 8, 7}, {ram + 3, 5, 5}, {ram + 3, 5, 4},
	} {
		taken(t, "a part", part(one.addr, one.size, one.data))
	}
	for _, one := range []struct {
		addr, size uint64
		data       int
	}{
		{ram - 1, 0, 0}, {ram - 1, 1, 0}, {ram - 1, 2, 0}, {ram - 8, 72, 0}, {0, 0, 0}, {0, 64, 0}, {64, 0, 0}, {ones, 0, 0}, {ones, 1, 0},
		{ram + 65, 0, 0}, {ram + 64, 1, 0}, {ram + 63, 2, 0}, {ram + 1, 64, 0}, {ram, 65, 0}, {ram, 72, 0}, {ram, 1 << 32, 0}, {ram, 1 << 63, 0}, {ram, ones, 0},
		{ram + 8, ones - 7, 0}, {ram + 8, ones, 0}, {1<<32 + ram, 8, 0}, {1<<63 + ram, 8, 0}, {ones - 7, ram + 16, 0}, {ram + 64, ones - 63, 0},
		{ram, 0, 1}, {ram + 64, 0, 1}, {ram + 3, 5, 6}, {ram, 63, 64}, {ram, 64, 65}, {ram, 8, 64},
	} {
		spoilt(t, "a part", part(one.addr, one.size, one.data))
	}
	spoilt(t, "the first part", func(d *api.Deck) { d.Parts[0].Size++ })
	spoilt(t, "the last part", func(d *api.Deck) { d.Parts[2].Addr++ })
	taken(t, "the greatest part", func(d *api.Deck) {
		d.Ram, d.Parts = maxRam, []api.Seg{{Addr: ram, Size: maxRam, Data: make([]byte, maxRam)}}
	})
	spoilt(t, "one byte above it", func(d *api.Deck) {
		d.Ram, d.Parts = maxRam, []api.Seg{{Addr: ram, Size: maxRam + 1, Data: make([]byte, maxRam)}}
	})
}

// TestP15_1Flags: the flags are not looked at.
func TestP15_1Flags(t *testing.T) {
	want := made(t, little()).Whole()
	for _, flags := range []int{0, 1, 2, 3, 4, 5, 6, 7, 8, 255, -1, math.MaxInt, math.MinInt} {
		change := func(d *api.Deck) { d.Parts[0].Flags, d.Parts[2].Flags = flags, flags }
		taken(t, "flags", change)
		d := little()
		change(&d)
		holds(t, "P15.1: flags", made(t, d), want)
	}
}

// TestP15_1Worlds: how many worlds there are, and how much input each may have.
func TestP15_1Worlds(t *testing.T) {
	count := func(n int) func(d *api.Deck) { return func(d *api.Deck) { d.Worlds = worlds(n) } }
	for _, n := range []int{0, 1, maxSteps - 1, maxSteps} {
		taken(t, "worlds", count(n))
	}
	spoilt(t, "worlds", count(maxSteps+1))
	spoilt(t, "worlds", count(2*maxSteps))
	for place := range 3 {
		input := func(n int) func(d *api.Deck) { return func(d *api.Deck) { d.Worlds[place].Input = make([]byte, n) } }
		taken(t, "input", input(maxInput-1))
		taken(t, "input", input(maxInput))
		spoilt(t, "input", input(maxInput+1))
		spoilt(t, "input", input(1000))
	}
	taken(t, "input", func(d *api.Deck) {
		for i := range d.Worlds {
			d.Worlds[i].Input = make([]byte, maxInput)
		}
	})
}

// TestP15_1AnyNumbers: decks of any numbers are answered, none by a panic, and valid by the words of section 15.1.
func TestP15_1AnyNumbers(t *testing.T) {
	r := random(2)
	number := func() uint64 {
		return one(r, ram, ram+8, ram+64, ram-1, 0, 8, 64, 63, 65, ones, ones-7, r.Uint64(), ram+uint64(r.IntN(70)), uint64(r.IntN(70)))
	}
	was := [2]int{}
	for range 40000 {
		d := api.Deck{Ram: one(r, 64, 64, 64, 64, 8, 65536, int(number())), Parts: make([]api.Seg, one(r, 0, 1, 1, 2, 16, 17)), Worlds: worlds(r.IntN(3))}
		for i := range d.Parts {
			d.Parts[i] = api.Seg{Addr: ram + uint64(r.IntN(8)), Size: uint64(r.IntN(8)), Flags: r.IntN(100) - 50}
			if r.IntN(16) == 0 {
				d.Parts[i] = api.Seg{Addr: number(), Size: number(), Data: make([]byte, r.IntN(4))}
			}
		}
		for i := range d.Worlds {
			d.Worlds[i].Input = make([]byte, one(r, 0, 1, 63, 64, 64, 65))
		}
		b, e := board.New(d)
		if want := isValid(d); (b != nil) != want || (e == api.OK) != want || e != api.OK && e != api.ErrBoard {
			t.Fatalf("P15.1: error %d of %+v", e, d)
		} else if want {
			was[1]++
		} else {
			was[0]++
		}
	}
	if was[0] < 5000 || was[1] < 5000 {
		t.Errorf("%v decks: too few to tell", was)
	}
}

// isValid is section 15.1's words, with sums of real numbers.
func isValid(d api.Deck) bool {
	is := d.Ram >= 8 && d.Ram <= 65536 && d.Ram%8 == 0 && len(d.Parts) <= 16 && len(d.Worlds) <= 4000
	for _, p := range d.Parts {
		size := great(p.Size, false)
		behind := size.Add(size, great(p.Addr, false))
		most := great(ram+uint64(d.Ram), false)
		is = is && p.Addr >= ram && behind.Cmp(most) <= 0 && p.Size >= uint64(len(p.Data))
	}
	for _, w := range d.Worlds {
		is = is && len(w.Input) <= 64
	}
	return is
}
