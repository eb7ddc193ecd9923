package pmp_test

import (
	"testing"

	"anvil/api"
	"anvil/pmp"
)

func span(t *testing.T, p api.Pmp, i int, first, end uint64) {
	t.Helper()
	if a, b, ok := pmp.Span(p, i); a != first || b != end || !ok {
		t.Errorf("G6: Span(%x, %d) = %#x, %#x, %v, want %#x, %#x, true", p, i, a, b, ok, first, end)
	}
}

func empty(t *testing.T, p api.Pmp, i int) {
	t.Helper()
	if a, b, ok := pmp.Span(p, i); a != 0 || b != 0 || ok {
		t.Errorf("G6: Span(%x, %d) = %#x, %#x, %v, want 0, 0, false", p, i, a, b, ok)
	}
}

func TestG6NoEntry(t *testing.T) {
	for _, i := range append([]int{-2, -1, 16, 17}, far...) {
		empty(t, all(0x1f, 1<<54-1), i)
		empty(t, all(0x11, 3), i)
	}
}

func TestG6Off(t *testing.T) {
	for i := range 16 {
		for _, cfg := range []uint8{0, 7, 0x80, 0x87, 0xe7} {
			empty(t, at(i, cfg, 9), i)
			empty(t, all(cfg, last), i)
		}
	}
}

func TestG6Four(t *testing.T) {
	for i := range 16 {
		for _, cfg := range []uint8{0x10, 0x17, 0x90, 0x97} {
			span(t, at(i, cfg, 0), i, 0, 3)
			span(t, at(i, cfg, 1), i, 4, 7)
			span(t, at(i, cfg, 0x20000003), i, 0x8000000c, 0x8000000f)
			span(t, at(i, cfg, 1<<54-1), i, 1<<56-4, 1<<56-1)
			span(t, at(i, cfg, last), i, 1<<56-4, 1<<56-1)
		}
	}
}

func TestG6Napot(t *testing.T) {
	for i := range 16 {
		for _, cfg := range []uint8{0x18, 0x1f, 0x98, 0x9f} {
			for n := range 54 {
				ones := uint64(1)<<n - 1
				span(t, at(i, cfg, ones), i, 0, 1<<(n+3)-1)
				// Every bit above the 0 is set, so the range is the last of its size.
				high := (uint64(1)<<54 - 1) &^ (1 << n)
				span(t, at(i, cfg, high), i, 1<<56-1<<(n+3), 1<<56-1)
			}
			span(t, at(i, cfg, 1<<54-1), i, 0, last)
			span(t, at(i, cfg, last), i, 0, last)
			span(t, at(i, cfg, 0x20000003), i, 0x80000000, 0x8000001f)
			span(t, at(i, cfg, 0x20000004), i, 0x80000010, 0x80000017)
		}
	}
}

func TestG6Tor(t *testing.T) {
	for i := 1; i < 16; i++ {
		for _, cfg := range []uint8{0x08, 0x0f, 0x88, 0x8f} {
			// What the entry before is does not count, but for its Addr.
			for _, before := range []uint8{0, 0x0f, 0x17, 0x1f, 0x80, 0x9f} {
				p := at(i, cfg, 8)
				p.Cfg[i-1] = before
				for from := range uint64(8) {
					p.Addr[i-1] = from
					span(t, p, i, 4*from, 31)
				}
				for _, from := range []uint64{8, 9, 1<<54 - 1, last} {
					p.Addr[i-1] = from
					empty(t, p, i)
				}
				p.Addr[i-1], p.Addr[i] = 1<<54-2, 1<<54-1
				span(t, p, i, 1<<56-8, 1<<56-5)
				p.Addr[i-1], p.Addr[i] = 0, 1<<54-1
				span(t, p, i, 0, 1<<56-5)
				p.Addr[i-1], p.Addr[i] = 0, 0
				empty(t, p, i)
			}
		}
	}
}

func TestG6TorFirst(t *testing.T) {
	for _, cfg := range []uint8{0x08, 0x0f, 0x88, 0x8f} {
		p := all(cfg, 7)
		for _, end := range []uint64{1, 2, 8, 1<<54 - 1} {
			p.Addr[0] = end
			span(t, p, 0, 0, 4*end-1)
		}
		p.Addr[0] = 0
		empty(t, p, 0)
	}
}

func match(t *testing.T, p api.Pmp, addr uint64, size, i int, whole bool) {
	t.Helper()
	if n, ok := pmp.Match(p, addr, size); n != i || ok != whole {
		t.Errorf("G7: Match(%x, %#x, %d) = %d, %v, want %d, %v", p, addr, size, n, ok, i, whole)
	}
}

func TestG7Sizes(t *testing.T) {
	p := at(5, 0x1f, 1<<54-1)
	for size := 1; size <= 8; size++ {
		match(t, p, 0, size, 5, true)
		match(t, p, last, size, 5, true)
	}
	for _, size := range append([]int{-8, -1, 0, 9, 16}, far...) {
		match(t, p, 0, size, -1, false)
		match(t, all(0x1f, 1<<54-1), 16, size, -1, false)
	}
}

// TestG7Edges: accesses of every size round both ends of a range.
func TestG7Edges(t *testing.T) {
	for _, c := range []struct {
		p          api.Pmp
		first, end uint64
	}{
		{at(4, 0x11, 10), 40, 43},
		{at(4, 0x19, 10), 40, 47},
		{at(4, 0x19, 0b10011), 64, 95},
		{list(0, 0, 0, 0, 0, 0, 0, 7, 0x0f, 8), 28, 31},
		{list(0, 0, 0, 0, 0, 0, 0, 7, 0x0f, 12), 28, 47},
		{at(4, 0x11, 1<<54-1), 1<<56 - 4, 1<<56 - 1},
	} {
		for size := 1; size <= 8; size++ {
			n := uint64(size)
			for addr := c.first - 9; addr <= c.end+9; addr++ {
				meets := addr+n > c.first && addr <= c.end
				i := -1
				if meets {
					i = 4
				}
				match(t, c.p, addr, size, i, meets && addr >= c.first && addr+n-1 <= c.end)
			}
		}
	}
}

// TestG7Around: a range in an access's midst holds a part of it too.
func TestG7Around(t *testing.T) {
	match(t, at(2, 0x11, 1), 2, 8, 2, false)
	match(t, at(2, 0x11, 1), 3, 5, 2, false)
	match(t, at(2, 0x11, 1), 4, 5, 2, false)
	match(t, at(2, 0x11, 1), 4, 4, 2, true)
}

func TestG7Lowest(t *testing.T) {
	for low := range 16 {
		p := all(0, 0)
		for i := low; i < 16; i++ {
			p.Cfg[i], p.Addr[i] = 0x1f, 1<<54-1
		}
		match(t, p, 0x1234, 8, low, true)
		p.Cfg[low], p.Addr[low] = 0x11, 1
		match(t, p, 4, 4, low, true)
		match(t, p, 0, 8, low, false)
		next := low + 1
		if next == 16 {
			next = -1
		}
		match(t, p, 0, 4, next, next > 0)
		match(t, p, 8, 8, next, next > 0)
	}
	match(t, api.Pmp{}, 0, 8, -1, false)
	match(t, all(0x8f, 5), 20, 1, -1, false)
}

// TestG7Two: two entries that together have all of an access's bytes are not one that has them.
func TestG7Two(t *testing.T) {
	p := list(0x17, 0, 0x17, 1)
	match(t, p, 0, 4, 0, true)
	match(t, p, 4, 4, 1, true)
	match(t, p, 0, 8, 0, false)
	match(t, p, 3, 2, 0, false)
	match(t, list(0x17, 1, 0x17, 0), 3, 2, 0, false)
}

// TestG7Wraps: the bytes of an access go on at 0 behind the last address.
func TestG7Wraps(t *testing.T) {
	four, every, top := at(3, 0x11, 0), at(3, 0x1f, 1<<54-1), at(3, 0x1f, 1<<53-1)
	for size := 1; size <= 8; size++ {
		for back := uint64(1); back <= 9; back++ {
			i := -1
			if uint64(size) > back {
				i = 3
			}
			match(t, four, 0-back, size, i, false)
			match(t, top, 0-back, size, i, false)
			match(t, every, 0-back, size, 3, true)
		}
	}
	match(t, list(0, 0, 0x0f, 2), last, 8, 1, false)
	match(t, list(0, 1, 0x0f, 2), last, 5, -1, false)
	match(t, list(0, 1, 0x0f, 2), last, 6, 1, false)
}
