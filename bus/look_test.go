package bus_test

import (
	"bytes"
	"math"
	"testing"

	"anvil/api"
)

func TestP3_8Peek(t *testing.T) {
	s := rich()
	b := of(t, s)
	for from := range 16 {
		for n := range 17 - from {
			wantPeek(t, b, ram+uint64(from), n, s.Ram[from:from+n])
		}
		for _, n := range []int{17 - from, 18 - from, 65536, 1 << 31, 1 << 32, math.MaxInt} {
			wantNoPeek(t, b, ram+uint64(from), n, api.ErrUnmapped)
		}
	}
	wantState(t, "behind looking", b, s)
}

// TestP3_8Wrong: an n below 0 comes first, whatever the address; 0 bytes are nowhere.
func TestP3_8Wrong(t *testing.T) {
	for _, size := range []int{8, 65536} {
		b := made(t, size)
		s := b.State()
		for _, addr := range append(places(size), last, last-1, last-7) {
			for _, n := range []int{-1, -2, -8, math.MinInt, math.MinInt + 1, -1 << 32} {
				wantNoPeek(t, b, addr, n, api.ErrArg)
			}
			wantPeek(t, b, addr, 0, nil)
			wantPoke(t, b, addr, nil, api.OK)
			wantPoke(t, b, addr, []byte{}, api.OK)
		}
		wantState(t, "behind nothing", b, s)
	}
}

// TestP3_8Places: runs of every length at every place, devices' too.
func TestP3_8Places(t *testing.T) {
	s := rich()
	for _, addr := range places(len(s.Ram)) {
		b, m := of(t, s), model{copied(s)}
		for n := 1; n <= 20; n++ {
			p := bytes.Repeat([]byte{byte(n)}, n)
			if m.inRam(addr, n) {
				wantPoke(t, b, addr, p, api.OK)
				m.poke(addr, p)
				wantPeek(t, b, addr, n, p)
			} else {
				wantPoke(t, b, addr, p, api.ErrUnmapped)
				wantNoPeek(t, b, addr, n, api.ErrUnmapped)
			}
			wantState(t, "behind a poke", b, m.s)
		}
	}
}

// TestP3_8Ends: the whole of the greatest RAM, one byte more at either end, and the last address.
func TestP3_8Ends(t *testing.T) {
	b := made(t, 65536)
	p := make([]byte, 65538)
	for i := range p {
		p[i] = byte(i*5/3 + 1)
	}
	for _, x := range []struct {
		addr uint64
		n    int
	}{{ram, 65537}, {ram - 1, 65537}, {ram - 1, 65536}, {ram + 1, 65536}, {ram - 1, 65538}, {ram - 1, 1}, {ram - 1, 2}, {ram + 65535, 2}, {ram + 65536, 1}, {last, 1}, {last, 2}, {last - 7, 8}, {last - 65535, 65536}, {console, 1}, {finisher, 4}, {mtime, 8}} {
		wantPoke(t, b, x.addr, p[:x.n], api.ErrUnmapped)
		wantNoPeek(t, b, x.addr, x.n, api.ErrUnmapped)
	}
	wantNoPeek(t, b, last, 1<<31+2, api.ErrUnmapped)
	wantNoPeek(t, b, last, ram+2, api.ErrUnmapped)
	wantState(t, "behind refusals", b, made(t, 65536).State())
	wantPoke(t, b, ram, p[:65536], api.OK)
	wantPeek(t, b, ram, 65536, p[:65536])
	wantPoke(t, b, ram+65535, []byte{0xee}, api.OK)
	wantPeek(t, b, ram+65534, 2, []byte{p[65534], 0xee})
}
