package board_test

import (
	"testing"

	"anvil/api"
	"anvil/board"
)

// TestP15_4Poke: Poke puts bytes into RAM, of any length at any place; where one is no RAM, nothing changes.
func TestP15_4Poke(t *testing.T) {
	for _, w := range []api.Whole{rich(), offWhole()} {
		b := again(t, w)
		size := uint64(len(w.Bus.Ram))
		pokes := func(addr uint64, p string) {
			t.Helper()
			if e := b.Poke(addr, []byte(p)); e != api.OK {
				t.Errorf("P15.4: Poke at %#x answers error %d", addr, e)
			}
			copy(w.Bus.Ram[addr-ram:], p)
			holds(t, "P15.4", b, w)
		}
		pokes(ram, "a")
		pokes(ram+3, "bcdef")
		pokes(ram+size-1, "z")
		pokes(ram, "abcdefghijklmnop")
		for _, addr := range []uint64{0, ram - 1, ram, ram + size, ones, console} {
			if e := b.Poke(addr, nil); e != api.OK {
				t.Errorf("P15.4: Poke of nothing at %#x answers error %d", addr, e)
			}
		}
		for _, addr := range []uint64{0, ram - 1, ram + size - 1, ram + size, ones, ones - 1, finisher, msip, mtime, console} {
			if e := b.Poke(addr, []byte("xy")); e != api.ErrUnmapped {
				t.Errorf("P15.4: Poke at %#x answers error %d", addr, e)
			}
		}
		if e := b.Poke(ram, make([]byte, size+1)); e != api.ErrUnmapped {
			t.Errorf("P15.4: Poke of too much answers error %d", e)
		}
		holds(t, "P15.4", b, w)
	}
}

// offWhole is a whole with the power off.
func offWhole() api.Whole {
	w := rich()
	w.Bus.Off, w.Bus.Code = api.Failed, 9
	return w
}

// TestP15_4Set: the Cpu that is set is the Cpu from now on, made proper, and nothing else changes.
func TestP15_4Set(t *testing.T) {
	r := random(6)
	for _, w := range []api.Whole{rich(), offWhole()} {
		b := again(t, w)
		c, want := improper()
		b.Set(c)
		w.Cpu = want
		holds(t, "P15.4", b, w)
		b.Set(api.Cpu{})
		w.Cpu = api.Cpu{Mstatus: uxl}
		holds(t, "P15.4", b, w)
		for range 500 {
			c := anyCpu(r)
			b.Set(c)
			w.Cpu = proper(c)
			holds(t, "P15.4", b, w)
		}
	}
}

// reserving is a board whose hart has reserved a word and is about to store there by sc.w.
func reserving(t *testing.T) *board.Board {
	t.Helper()
	b := made(t, sourced(t, 64, "auipc a0, 0", "addi a0, a0, 32", "li a1, 7", "lr.w a2, (a0)", "sc.w a3, a1, (a0)", "lw a4, 0(a0)"))
	steps(b, worlds(4))
	if res := b.Whole().Cpu.Res; res != (api.Res{Valid: true, Addr: ram + 32, Size: 4}) {
		t.Fatalf("the reservation is %+v", res)
	}
	return b
}

// stores: the sc.w must store, or must not; behind it stands what was stored, or this.
func stores(t *testing.T, name string, b *board.Board, does bool, old uint64) {
	t.Helper()
	sc, lw := b.Step(api.World{}), b.Step(api.World{})
	if does && (sc.Val != 0 || sc.Mem != api.W || sc.Data != 7 || lw.Val != 7) || !does && (sc.Val != 1 || sc.Mem != 0 || lw.Val != old) {
		t.Errorf("P15.4: %s: the rows are\n%+v\n%+v", name, sc, lw)
	}
}

// TestP15_4Reservation: with Poke the reservation stays, also where its bytes are put; with Set it is the Cpu's own.
func TestP15_4Reservation(t *testing.T) {
	b := reserving(t)
	stores(t, "untouched", b, true, 0)
	b = reserving(t)
	for _, addr := range []uint64{ram + 32, ram + 34, ram + 28, ram + 36} {
		b.Poke(addr, []byte{9, 9, 9, 9})
	}
	stores(t, "poked", b, true, 0)

	none := func(c *api.Cpu) { c.Res = api.Res{} }
	for _, one := range []struct {
		name   string
		change func(c *api.Cpu)
		does   bool
	}{
		{"the same", func(c *api.Cpu) {}, true},
		{"another register", func(c *api.Cpu) { c.X[5] = 5 }, true},
		{"none", none, false},
		{"another place", func(c *api.Cpu) { c.Res.Addr += 4 }, false},
		{"another size", func(c *api.Cpu) { c.Res.Size = 8 }, false},
		{"no place", func(c *api.Cpu) { c.Res.Addr++ }, false},
		{"no size", func(c *api.Cpu) { c.Res.Size = 3 }, false},
		{"not valid", func(c *api.Cpu) { c.Res.Valid = false }, false},
	} {
		b := reserving(t)
		c := b.Whole().Cpu
		one.change(&c)
		b.Set(c)
		stores(t, one.name, b, one.does, 0)
	}
	b = reserving(t)
	c := b.Whole().Cpu
	none(&c)
	b.Set(c)
	c.Res = api.Res{Valid: true, Addr: ram + 32, Size: 4}
	b.Set(c)
	stores(t, "set again", b, true, 0)
}

// TestP15_4Between: what is poked and set between two steps is what the next one finds.
func TestP15_4Between(t *testing.T) {
	b := made(t, plain(16))
	for i := range 20 {
		b.Poke(ram+4, bytesOf(0x00050513|uint32(i)<<20)) // addi a0, a0, i
		c := b.Whole().Cpu
		c.Pc, c.X[10] = ram+5, 100
		b.Set(c)
		want := api.Row{
			Step: i + 1, Kind: api.RowRetire, Mode: 3, Pc: ram + 4, Raw: 0x00050513 | uint32(i)<<20, Len: 4,
			Rd: 10, Val: 100 + uint64(i), Next: ram + 8, NextMode: 3,
		}
		if row := b.Step(api.World{}); row != want {
			t.Errorf("P15.4: the row is\n%+v, want\n%+v", row, want)
		}
	}
	if c := b.Whole().Cpu; c.Minstret != 20 || c.Mcycle != 20 {
		t.Errorf("the counters are %d and %d", c.Mcycle, c.Minstret)
	}
}

// TestP15_4Any: steps, pokes and sets in any order are what the machine makes of them.
func TestP15_4Any(t *testing.T) {
	r := random(7)
	for range 300 {
		d := anyDeck(r, 0)
		b, m := made(t, d), begun(d)
		for range 60 {
			switch r.IntN(8) {
			case 0:
				c := anyCpu(r)
				b.Set(c)
				m.cpu = proper(c)
			case 1:
				p := anyProgram(r, r.IntN(12))
				addr := ram + uint64(r.IntN(d.Ram))
				fits := addr-ram+uint64(len(p)) <= uint64(d.Ram)
				if e := b.Poke(addr, p); (e == api.OK) != fits || e != api.OK && e != api.ErrUnmapped {
					t.Fatalf("P15.4: Poke of %d bytes at %#x answers error %d", len(p), addr, e)
				}
				if fits {
					copy(m.bus.Ram[addr-ram:], p)
				}
			default:
				w := anyWorld(r)
				if got, want := b.Step(w), m.step(w); got != want {
					t.Fatalf("P15.3: the row is\n%+v, want\n%+v", got, want)
				}
			}
			if got, want := b.Whole(), m.whole(); !sameWhole(got, want) {
				t.Fatalf("P15.4: the whole is\n%+v, want\n%+v", got, want)
			}
		}
	}
}
