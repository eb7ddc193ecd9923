package save_test

import (
	"bytes"
	"math"
	"slices"
	"testing"

	"anvil/api"
)

// place is where a field stands, in how many bytes, and how it is set.
type place struct {
	name     string
	at, size int
	set      func(w *api.Whole, v uint64)
	values   []uint64
}

// bitsOf is some values of a field that has these bits: none, all, each alone.
func bitsOf(mask uint64) []uint64 {
	all := []uint64{0, mask}
	for n := range 64 {
		if mask>>n&1 == 1 {
			all = append(all, 1<<n)
		}
	}
	return all
}

// truths is the values of a flag.
func truths() []uint64 { return []uint64{0, 1} }

// cpuPlaces is where each field of a Cpu stands, with values that are proper.
func cpuPlaces() []place {
	cpu := func(of func(c *api.Cpu) *uint64) func(w *api.Whole, v uint64) {
		return func(w *api.Whole, v uint64) { *of(&w.Cpu) = v }
	}
	all := []place{
		{"Pc", 8, 8, cpu(func(c *api.Cpu) *uint64 { return &c.Pc }), bitsOf(ones - 1)},
		{"Mode", 272, 1, func(w *api.Whole, v uint64) { w.Cpu.Mode = int(v) }, []uint64{0, 3}},
		{"Waiting", 273, 1, func(w *api.Whole, v uint64) { w.Cpu.Waiting = v == 1 }, truths()},
		{"Mstatus", 274, 8, cpu(func(c *api.Cpu) *uint64 { return &c.Mstatus }), []uint64{uxl, uxl | 8, uxl | 0x80, uxl | 0x1800, uxl | 1<<17, uxl | 1<<21, 0x200221888}},
		{"Mtvec", 282, 8, cpu(func(c *api.Cpu) *uint64 { return &c.Mtvec }), bitsOf(ones - 2)},
		{"Mie", 290, 8, cpu(func(c *api.Cpu) *uint64 { return &c.Mie }), bitsOf(0x888)},
		{"Mcounteren", 298, 8, cpu(func(c *api.Cpu) *uint64 { return &c.Mcounteren }), bitsOf(7)},
		{"Mcountinhibit", 306, 8, cpu(func(c *api.Cpu) *uint64 { return &c.Mcountinhibit }), bitsOf(5)},
		{"Menvcfg", 314, 8, cpu(func(c *api.Cpu) *uint64 { return &c.Menvcfg }), bitsOf(1)},
		{"Mscratch", 322, 8, cpu(func(c *api.Cpu) *uint64 { return &c.Mscratch }), bitsOf(ones)},
		{"Mepc", 330, 8, cpu(func(c *api.Cpu) *uint64 { return &c.Mepc }), bitsOf(ones - 1)},
		{"Mcause", 338, 8, cpu(func(c *api.Cpu) *uint64 { return &c.Mcause }), bitsOf(ones)},
		{"Mtval", 346, 8, cpu(func(c *api.Cpu) *uint64 { return &c.Mtval }), bitsOf(ones)},
		{"Mcycle", 354, 8, cpu(func(c *api.Cpu) *uint64 { return &c.Mcycle }), bitsOf(ones)},
		{"Minstret", 362, 8, cpu(func(c *api.Cpu) *uint64 { return &c.Minstret }), bitsOf(ones)},
		{"Res.Addr", 515, 8, cpu(func(c *api.Cpu) *uint64 { return &c.Res.Addr }), bitsOf(ones - 7)},
		{"Res.Size", 523, 1, func(w *api.Whole, v uint64) { w.Cpu.Res.Size = int(v) }, []uint64{4, 8}},
	}
	for i := 1; i < 32; i++ {
		all = append(all, place{"X", 16 + 8*i, 8, cpu(func(c *api.Cpu) *uint64 { return &c.X[i] }), bitsOf(ones)})
	}
	for i := range 16 {
		all = append(all, place{"Pmp.Cfg", 370 + i, 1, func(w *api.Whole, v uint64) { w.Cpu.Pmp.Cfg[i] = uint8(v) }, []uint64{0, 1, 3, 4, 5, 7, 8, 16, 24, 0x80, 0x9f}})
		all = append(all, place{"Pmp.Addr", 386 + 8*i, 8, cpu(func(c *api.Cpu) *uint64 { return &c.Pmp.Addr[i] }), bitsOf(1<<54 - 1)})
	}
	return all
}

// busPlaces is where each field of a bus stands that has a place of its own, with values that can be.
func busPlaces() []place {
	bus := func(set func(b *api.Bus, v uint64)) func(w *api.Whole, v uint64) {
		return func(w *api.Whole, v uint64) { set(&w.Bus, v) }
	}
	return []place{
		{"Msip", 524, 4, bus(func(b *api.Bus, v uint64) { b.Msip = uint32(v) }), truths()},
		{"Mtimecmp", 528, 8, bus(func(b *api.Bus, v uint64) { b.Mtimecmp = v }), bitsOf(ones)},
		{"Mtime", 536, 8, bus(func(b *api.Bus, v uint64) { b.Mtime = v }), bitsOf(ones)},
		{"Ext", 544, 1, bus(func(b *api.Bus, v uint64) { b.Ext = v == 1 }), truths()},
		{"Soft", 545, 1, bus(func(b *api.Bus, v uint64) { b.Soft = v == 1 }), truths()},
		{"Ier", 546, 1, bus(func(b *api.Bus, v uint64) { b.Ier = uint8(v) }), bitsOf(15)},
		{"Lcr", 547, 1, bus(func(b *api.Bus, v uint64) { b.Lcr = uint8(v) }), bitsOf(255)},
		{"Mcr", 548, 1, bus(func(b *api.Bus, v uint64) { b.Mcr = uint8(v) }), bitsOf(31)},
		{"Scratch", 549, 1, bus(func(b *api.Bus, v uint64) { b.Scratch = uint8(v) }), bitsOf(255)},
		{"Overrun", 550, 1, bus(func(b *api.Bus, v uint64) { b.Overrun = v == 1 }), truths()},
		{"Code", 552, 4, bus(func(b *api.Bus, v uint64) { b.Code = int(v) }), bitsOf(65535)},
	}
}

// put is bytes with a number laid over them, its lowest byte first.
func put(b []byte, at, size int, v uint64) []byte {
	b = bytes.Clone(b)
	for i := range size {
		b[at+i] = byte(v >> (8 * i))
	}
	return b
}

// TestP16_2Places: a field that is set shows in its own bytes and in the sum alone; all wholes of it differ.
func TestP16_2Places(t *testing.T) {
	short := greatest()
	short.Bus.Ram = short.Bus.Ram[:8]
	for _, base := range []api.Whole{rich(), short} {
		b := saved(t, base)
		for _, p := range append(cpuPlaces(), busPlaces()...) {
			for _, v := range p.values {
				w := copied(base)
				p.set(&w, v)
				if got, want := saved(t, w), resummed(put(b, p.at, p.size, v)); !bytes.Equal(got, want) {
					t.Fatalf("P16.2: with %s %#x (at %d) the snapshot is\n% x, want\n% x", p.name, v, p.at, got, want)
				}
				if got := loaded(t, saved(t, w)); !same(got, w) {
					t.Fatalf("P16.4: with %s %#x the whole is\n%+v, want\n%+v", p.name, v, got, w)
				}
			}
		}
	}
}

// TestP16_2Alone: the same with all else zero, and what hangs together.
func TestP16_2Alone(t *testing.T) {
	b := saved(t, least())
	check := func(what string, w api.Whole, want []byte) {
		t.Helper()
		if got := saved(t, w); !bytes.Equal(got, resummed(want)) {
			t.Errorf("P16.2: %s: the snapshot is\n% x, want\n% x", what, got, resummed(want))
		}
	}
	w := least()
	w.Bus.Off = api.Passed
	check("Passed", w, put(b, 551, 1, 1))
	w.Bus.Off = api.Failed
	check("Failed", w, put(b, 551, 1, 2))
	w.Bus.Code = 0xfedc
	check("Failed with a Code", w, put(put(b, 551, 1, 2), 552, 4, 0xfedc))
	w = least()
	w.Cpu.Res = api.Res{Valid: true, Addr: 0x1234567890abcde0, Size: 8}
	check("Res of 8", w, put(put(put(b, 514, 1, 1), 515, 8, 0x1234567890abcde0), 523, 1, 8))
	w.Cpu.Res.Size = 4
	check("Res of 4", w, put(put(put(b, 514, 1, 1), 515, 8, 0x1234567890abcde0), 523, 1, 4))
	w = least()
	w.Bus.Input = []byte("in")
	check("Input", w, slices.Concat(b[:556], []byte{2, 'i', 'n'}, b[557:]))
	w.Bus.Output = []byte("out")
	check("Input and Output", w, slices.Concat(b[:556], []byte{2, 'i', 'n', 3, 0, 'o', 'u', 't'}, b[559:]))
	w.Bus.Input, w.Bus.Output = nil, bytes.Repeat([]byte{'x'}, 0x0203)
	check("much Output", w, slices.Concat(b[:557], []byte{3, 2}, w.Bus.Output, b[559:]))
	w.Bus.Output = nil
	w.Bus.Ram = make([]byte, 0xfedc&^7)
	check("much RAM", w, put(b, 559, 4, 0xfed8))
	w.Bus.Ram = make([]byte, maxRam)
	check("most RAM", w, put(b, 559, 4, 0x10000))
}

// TestP16_2Improper: the snapshot is that of the Cpu made proper.
func TestP16_2Improper(t *testing.T) {
	for _, c := range []struct {
		name   string
		change func(c *api.Cpu)
		want   func(c *api.Cpu)
	}{
		{"an odd Pc", func(c *api.Cpu) { c.Pc |= 1 }, func(c *api.Cpu) {}},
		{"X[0]", func(c *api.Cpu) { c.X[0] = ones }, func(c *api.Cpu) {}},
		{"Mode 1", func(c *api.Cpu) { c.Mode = 1 }, func(c *api.Cpu) { c.Mode = 0 }},
		{"Mode 2", func(c *api.Cpu) { c.Mode = 2 }, func(c *api.Cpu) { c.Mode = 0 }},
		{"Mode -1", func(c *api.Cpu) { c.Mode = -1 }, func(c *api.Cpu) { c.Mode = 0 }},
		{"Mode 259", func(c *api.Cpu) { c.Mode = 259 }, func(c *api.Cpu) { c.Mode = 0 }},
		{"Mode greatest", func(c *api.Cpu) { c.Mode = math.MaxInt }, func(c *api.Cpu) { c.Mode = 0 }},
		{"Mstatus 0", func(c *api.Cpu) { c.Mstatus = 0 }, func(c *api.Cpu) { c.Mstatus = uxl }},
		{"Mstatus all bits", func(c *api.Cpu) { c.Mstatus = ones }, func(c *api.Cpu) { c.Mstatus = 0x200221888 }},
		{"MPP 1", func(c *api.Cpu) { c.Mstatus = 0x800 }, func(c *api.Cpu) { c.Mstatus = uxl }},
		{"Mtvec's bit 1", func(c *api.Cpu) { c.Mtvec |= 2 }, func(c *api.Cpu) {}},
		{"Mie all bits", func(c *api.Cpu) { c.Mie = ones }, func(c *api.Cpu) { c.Mie = 0x888 }},
		{"Mcounteren all bits", func(c *api.Cpu) { c.Mcounteren = ones }, func(c *api.Cpu) { c.Mcounteren = 7 }},
		{"Mcountinhibit all bits", func(c *api.Cpu) { c.Mcountinhibit = ones }, func(c *api.Cpu) { c.Mcountinhibit = 5 }},
		{"Menvcfg all bits", func(c *api.Cpu) { c.Menvcfg = ones }, func(c *api.Cpu) { c.Menvcfg = 1 }},
		{"an odd Mepc", func(c *api.Cpu) { c.Mepc |= 1 }, func(c *api.Cpu) {}},
		{"W without R", func(c *api.Cpu) { c.Pmp.Cfg[3] = 0xfe }, func(c *api.Cpu) { c.Pmp.Cfg[3] = 0x9c }},
		{"a long Pmp.Addr", func(c *api.Cpu) { c.Pmp.Addr[3] = ones }, func(c *api.Cpu) { c.Pmp.Addr[3] = 1<<54 - 1 }},
		{"Res of 2", func(c *api.Cpu) { c.Res.Size = 2 }, func(c *api.Cpu) { c.Res = api.Res{} }},
		{"Res of 264", func(c *api.Cpu) { c.Res.Size = 264 }, func(c *api.Cpu) { c.Res = api.Res{} }},
		{"Res not aligned", func(c *api.Cpu) { c.Res.Addr += 4 }, func(c *api.Cpu) { c.Res = api.Res{} }},
		{"Res not Valid", func(c *api.Cpu) { c.Res.Valid = false }, func(c *api.Cpu) { c.Res = api.Res{} }},
	} {
		w, want := rich(), rich()
		c.change(&w.Cpu)
		c.want(&want.Cpu)
		if !isProper(want.Cpu) {
			t.Fatalf("%s: the test's own Cpu is not proper", c.name)
		}
		b := saved(t, w)
		if !bytes.Equal(b, saved(t, want)) || !bytes.Equal(b, drafted(want).bytes()) {
			t.Errorf("P16.2: %s: the snapshot is not that of the proper Cpu", c.name)
		}
		if got := loaded(t, b); !same(got, want) {
			t.Errorf("P16.4: %s: the whole is\n%+v, want\n%+v", c.name, got, want)
		}
	}
}

// TestP16_2Pages: just the pages that have a byte that is not 0 are told, in their order.
func TestP16_2Pages(t *testing.T) {
	for _, c := range []struct {
		name  string
		size  int
		set   []int // the bytes that are not 0
		pages []uint16
	}{
		{"none of 8 bytes", 8, nil, nil},
		{"8 bytes", 8, []int{7}, []uint16{0}},
		{"one short of a page, its last byte", 248, []int{247}, []uint16{0}},
		{"one page, none", 256, nil, nil},
		{"one page, its first byte", 256, []int{0}, []uint16{0}},
		{"one page, its last byte", 256, []int{255}, []uint16{0}},
		{"a page and a short one, none", 264, nil, nil},
		{"a page and a short one, the first", 264, []int{255}, []uint16{0}},
		{"a page and a short one, the second", 264, []int{256}, []uint16{1}},
		{"a page and a short one, both", 264, []int{255, 263}, []uint16{0, 1}},
		{"some pages, the first", 1000, []int{0}, []uint16{0}},
		{"some pages, the last whole one", 1000, []int{767}, []uint16{2}},
		{"some pages, the short one", 1000, []int{768}, []uint16{3}},
		{"some pages, the short one's end", 1000, []int{999}, []uint16{3}},
		{"some pages, all", 1000, []int{5, 256, 767, 999}, []uint16{0, 1, 2, 3}},
		{"some pages, every other one", 1000, []int{300, 900}, []uint16{1, 3}},
		{"most RAM, none", maxRam, nil, nil},
		{"most RAM, the last", maxRam, []int{maxRam - 1}, []uint16{255}},
		{"most RAM, the first and the last", maxRam, []int{0, maxRam - 256}, []uint16{0, 255}},
		{"nearly most RAM, the short one", maxRam - 8, []int{maxRam - 9}, []uint16{255}},
	} {
		w := rich()
		w.Bus.Ram = make([]byte, c.size)
		for i, at := range c.set {
			w.Bus.Ram[at] = byte(0x80 >> (i % 8))
		}
		d := drafted(w)
		d.pages = nil
		for _, n := range c.pages {
			d.pages = append(d.pages, pagePart{n, w.Bus.Ram[int(n)*256 : min(int(n)*256+256, c.size)]})
		}
		b := saved(t, w)
		if !bytes.Equal(b, d.bytes()) {
			t.Errorf("P16.2: %s: the snapshot is\n% x, want\n% x", c.name, b, d.bytes())
		}
		if got := loaded(t, b); !same(got, w) {
			t.Errorf("P16.4: %s: the whole is another", c.name)
		}
	}
}

// TestP16_2EachPage: of RAM of all lengths up to some pages, and of each byte alone.
func TestP16_2EachPage(t *testing.T) {
	for size := 8; size <= 800; size += 8 {
		for at := 0; at < size; at += 1 + size/37 {
			w := least()
			w.Bus.Ram = make([]byte, size)
			w.Bus.Ram[at] = byte(1 + at%255)
			page := w.Bus.Ram[at/256*256 : min(at/256*256+256, size)]
			b := saved(t, w)
			if want := slices.Concat([]byte{byte(at / 256), 0}, page, []byte{0xff, 0xff}); !bytes.Equal(b[563:len(b)-4], want) {
				t.Fatalf("P16.2: with byte %d of %d the pages are\n% x, want\n% x", at, size, b[563:len(b)-4], want)
			}
		}
	}
}

// TestP16_2Longest: no snapshot is longer than the longest, which has every page and full lists.
func TestP16_2Longest(t *testing.T) {
	if n := len(saved(t, greatest())); n != longest || n > maxSave {
		t.Errorf("P16.2: the longest snapshot has %d bytes", n)
	}
	if n := len(saved(t, least())); n != shortest {
		t.Errorf("P16.2: the shortest snapshot has %d bytes", n)
	}
}

// TestP16_2Any: snapshots of wholes of every kind are those of the model.
func TestP16_2Any(t *testing.T) {
	r := random(3)
	for _, w := range possible() {
		if b, want := saved(t, w), drafted(w).bytes(); !bytes.Equal(b, want) {
			t.Fatalf("P16.2: the snapshot is\n% x, want\n% x", b, want)
		}
	}
	for range 1500 {
		w := anyWhole(r)
		if b, want := saved(t, w), drafted(w).bytes(); !bytes.Equal(b, want) {
			t.Fatalf("P16.2: the snapshot is\n% x, want\n% x", b, want)
		}
	}
}
