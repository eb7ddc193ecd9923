package bus_test

import (
	"math"
	"testing"

	"anvil/api"
	"anvil/bus"
)

// everywhere goes through all the places and sizes, with a bus and what the chapter's table says of each.
func everywhere(t *testing.T, visit func(b *bus.Bus, m *model, addr uint64, size int)) {
	for _, bytes := range []int{8, 16, 65536} {
		s := rich()
		s.Ram = append(s.Ram, make([]byte, 65536)...)[:bytes]
		b, m := of(t, s), &model{copied(s)}
		for _, addr := range places(bytes) {
			for _, size := range sizes() {
				visit(b, m, addr, size)
			}
		}
		wantState(t, "behind looking", b, s)
	}
}

func TestP3_3Can(t *testing.T) {
	everywhere(t, func(b *bus.Bus, m *model, addr uint64, size int) {
		there := m.where(addr, size) != ""
		for kind := -4; kind <= 9; kind++ {
			want := there && (kind == 1 || kind == 2 || kind == 3)
			if got := b.Can(addr, size, kind); got != want {
				t.Errorf("Can(%#x, %d, %d) answers %v, want %v", addr, size, kind, got, want)
			}
		}
	})
}

// TestP3_3Kinds: no kind but the three, at an access that is there.
func TestP3_3Kinds(t *testing.T) {
	b := of(t, rich())
	for _, x := range append(spots(), spot{ram, 1, ""}, spot{ram + 8, 8, ""}, spot{ram + 14, 2, ""}, spot{ram + 12, 4, ""}) {
		for _, kind := range []int{api.R, api.W, api.R | api.W} {
			if !b.Can(x.addr, x.size, kind) {
				t.Errorf("Can(%#x, %d, %d) answers false", x.addr, x.size, kind)
			}
		}
		for _, kind := range []int{0, api.X, api.R | api.X, api.W | api.X, api.R | api.W | api.X, 8, 9, 17, 1<<32 + 1, -1, -2, -3, math.MinInt, math.MinInt + 1, math.MaxInt} {
			if b.Can(x.addr, x.size, kind) {
				t.Errorf("Can(%#x, %d, %d) answers true", x.addr, x.size, kind)
			}
		}
	}
}

func TestP3_3IsRam(t *testing.T) {
	everywhere(t, func(b *bus.Bus, m *model, addr uint64, size int) {
		if got, want := b.IsRam(addr, size), m.inRam(addr, size); got != want {
			t.Errorf("IsRam(%#x, %d) answers %v, want %v", addr, size, got, want)
		}
	})
	b := made(t, 65536)
	for _, x := range []struct {
		addr uint64
		size int
		want bool
	}{
		{ram, 65536, true}, {ram, 65535, true}, {ram + 1, 65535, true}, {ram + 65535, 1, true}, {ram + 3, 5, true},
		{ram, 65537, false}, {ram + 1, 65536, false}, {ram + 65535, 2, false}, {ram + 65536, 1, false}, {ram - 1, 1, false}, {ram - 1, 2, false}, {ram - 1, 65538, false},
		{ram, 0, false}, {ram, -1, false}, {ram, math.MinInt, false}, {ram, math.MaxInt, false}, {ram + 65535, math.MaxInt, false},
		{last, 1, false}, {last, 2, false}, {last, 1<<31 + 2, false}, {last, ram + 2, false}, {last - 7, 8, false}, {0, ram + 1, false}, {0, 0, false},
	} {
		if got := b.IsRam(x.addr, x.size); got != x.want {
			t.Errorf("IsRam(%#x, %d) answers %v, want %v", x.addr, x.size, got, x.want)
		}
	}
}

// TestP3_4There: what is not there gives 0 and false and changes nothing; what is there gives true.
func TestP3_4There(t *testing.T) {
	everywhere(t, func(b *bus.Bus, m *model, addr uint64, size int) {
		name := m.where(addr, size)
		if name == "uart 0" || name == "uart 5" {
			return // they change
		}
		if name == "" {
			wantNoLoad(t, b, addr, size)
		} else if _, there := b.Load(addr, size); !there {
			t.Errorf("Load(%#x, %d) does not find %s", addr, size, name)
		}
	})
}

// TestP3_5There: what is not there takes no store.
func TestP3_5There(t *testing.T) {
	everywhere(t, func(b *bus.Bus, m *model, addr uint64, size int) {
		if m.where(addr, size) != "" {
			return
		}
		for _, v := range []uint64{0, 0x5555, 0x73333, last, 0x0202020202020202} {
			if b.Store(addr, size, v) {
				t.Errorf("Store(%#x, %d, %#x) answers true", addr, size, v)
			}
		}
	})
}
