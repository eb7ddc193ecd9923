package save_test

import (
	"bytes"
	"slices"
	"testing"

	"anvil/api"
	"anvil/board"
	"anvil/bus"
	"anvil/save"
)

// back: a whole goes there and back, and its snapshot back and there.
func back(t *testing.T, w api.Whole) {
	t.Helper()
	b := saved(t, w)
	got, want := loaded(t, b), api.Whole{Cpu: proper(w.Cpu), Bus: w.Bus}
	if !same(got, want) {
		t.Fatalf("P16.4: the whole is\n%+v, want\n%+v", got, want)
	}
	if again := saved(t, got); !bytes.Equal(again, b) {
		t.Fatalf("P16.4: the snapshot is\n% x, want\n% x", again, b)
	}
}

func TestP16_4Possible(t *testing.T) {
	for _, w := range possible() {
		back(t, w)
	}
}

func TestP16_4Any(t *testing.T) {
	r := random(6)
	for range 3000 {
		back(t, anyWhole(r))
	}
}

// TestP16_4Made: wholes as buses and boards tell them.
func TestP16_4Made(t *testing.T) {
	for _, size := range []int{8, 256, 264, maxRam} {
		own, e := bus.New(size)
		if e != api.OK {
			t.Fatalf("bus.New answers error %d", e)
		}
		back(t, api.Whole{Bus: own.State()})
	}
	own, e := board.From(rich())
	if e != api.OK {
		t.Fatalf("board.From answers error %d", e)
	}
	if w := loaded(t, saved(t, own.Whole())); !same(w, rich()) {
		t.Errorf("P16.4: the whole is\n%+v", w)
	}
}

// TestP14Snapshots: what Load takes is just what Save makes of it: two snapshots of one whole there are not. Of drafts that say the same in another way none is taken.
func TestP14Snapshots(t *testing.T) {
	w := rich()
	d := drafted(w)
	for what, change := range map[string]func(d *draft){
		"a blank page told":       func(d *draft) { d.pages = slices.Insert(d.pages, 1, pagePart{1, make([]byte, 256)}) },
		"a page told twice":       func(d *draft) { d.pages = slices.Insert(d.pages, 1, d.pages[0]) },
		"pages in another order":  func(d *draft) { d.pages[0], d.pages[1] = d.pages[1], d.pages[0] },
		"a truth of 255":          func(d *draft) { d.cpu.Waiting = 255 },
		"a Cpu that is not yet":   func(d *draft) { d.cpu.Mstatus &^= 3 << 32 },
		"a register that is zero": func(d *draft) { d.cpu.X[0] = 5 },
	} {
		other := d
		other.pages = slices.Clone(d.pages)
		change(&other)
		if got, e := save.Load(other.bytes()); e == api.OK || !same(got, api.Whole{}) {
			t.Errorf("P14: %s: Load answers error %d and\n%+v", what, e, got)
		}
	}
	if !bytes.Equal(d.bytes(), saved(t, w)) {
		t.Error("P14: the draft itself is another")
	}
}

// TestP16_4Differ: wholes that differ in one field have different snapshots.
func TestP16_4Differ(t *testing.T) {
	seen := map[string]int{}
	for _, p := range append(cpuPlaces(), busPlaces()...) {
		for _, v := range p.values {
			w := rich()
			p.set(&w, v)
			if !same(w, rich()) {
				seen[string(saved(t, w))]++
			}
		}
	}
	for _, change := range []func(b *api.Bus){
		func(b *api.Bus) {},
		func(b *api.Bus) { b.Ram = append(b.Ram, make([]byte, 8)...) },
		func(b *api.Bus) { b.Ram = b.Ram[:992] },
		func(b *api.Bus) { b.Ram[1] = 1 },
		func(b *api.Bus) { b.Ram[300] = 1 },
		func(b *api.Bus) { b.Ram[600] = 0 },
		func(b *api.Bus) { b.Input = append(b.Input, 0) },
		func(b *api.Bus) { b.Input = b.Input[1:] },
		func(b *api.Bus) { b.Output = append(b.Output, 0) },
		func(b *api.Bus) { b.Output = b.Output[1:] },
		func(b *api.Bus) { b.Input, b.Output = b.Output, b.Input },
		func(b *api.Bus) { b.Off, b.Code = api.Passed, 0 },
		func(b *api.Bus) { b.Off, b.Code = api.Running, 0 },
	} {
		w := rich()
		change(&w.Bus)
		seen[string(saved(t, w))]++
	}
	for b, n := range seen {
		if n > 1 {
			t.Errorf("P16.4: %d wholes have one snapshot:\n% x", n, b)
		}
	}
	if len(seen) < 3000 {
		t.Errorf("%d wholes: too few to tell", len(seen))
	}
}

// TestRule4Again: the same call answers the same, whatever was called between.
func TestRule4Again(t *testing.T) {
	r := random(7)
	first := saved(t, rich())
	for range 50 {
		b := saved(t, anyWhole(r))
		save.Load(b[:r.IntN(len(b))])
		loaded(t, b)
		if !bytes.Equal(saved(t, rich()), first) || !same(loaded(t, first), rich()) {
			t.Fatal("rule 4: the same call answers something else")
		}
	}
}
