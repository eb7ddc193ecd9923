package bus_test

import (
	"bytes"
	"testing"

	"anvil/api"
	"anvil/bus"
)

// roomy is a list with spare room behind it that has something in it.
func roomy(list []byte) []byte {
	return append(bytes.Clone(list), bytes.Repeat([]byte{0x77}, 100)...)[:len(list)]
}

// spoil overwrites a list and its spare room.
func spoil(lists ...[]byte) {
	for _, list := range lists {
		list = list[:cap(list)]
		for i := range list {
			list[i] ^= 0xff
		}
	}
}

// wantWhole: a list and its spare room must be as roomy made them.
func wantWhole(t *testing.T, what string, list, was []byte) {
	t.Helper()
	want := append(bytes.Clone(was), bytes.Repeat([]byte{0x77}, 100)...)
	if got := list[:len(want)]; !bytes.Equal(got, want) {
		t.Errorf("%s has changed: %x, want %x", what, got, want)
	}
}

// turn makes calls that write into everything that a bus keeps.
func turn(b *bus.Bus) {
	for i := range uint64(16) {
		b.Store(ram+i, 1, 0xee)
	}
	b.Poke(ram, []byte{1, 2, 3})
	for range 3 {
		b.Store(console, 1, 0xdd)
		b.Load(console, 1)
	}
	b.Begin(api.World{Input: bytes.Repeat([]byte{0xcc}, 70)})
	b.Store(console+2, 1, 2)
	b.Begin(api.World{Input: bytes.Repeat([]byte{0xbb}, 70)})
}

func TestRule3From(t *testing.T) {
	was := rich()
	s := rich()
	s.Ram, s.Input, s.Output = roomy(s.Ram), roomy(s.Input), roomy(s.Output)
	b := of(t, s)
	turn(b)
	wantWhole(t, "Ram that was handed in", s.Ram, was.Ram)
	wantWhole(t, "Input that was handed in", s.Input, was.Input)
	wantWhole(t, "Output that was handed in", s.Output, was.Output)

	b, other := of(t, s), of(t, s)
	spoil(s.Ram, s.Input, s.Output)
	wantState(t, "what was handed in has changed", b, was)
	turn(other)
	wantState(t, "another bus of the same state has changed", b, was)
}

// TestRule3OneList: the same list in several fields is still three lists of the bus's own.
func TestRule3OneList(t *testing.T) {
	list := roomy(rich().Ram)
	b := of(t, api.Bus{Ram: list, Input: list, Output: list[:8]})
	wantStore(t, b, ram, 8, 0)
	wantLoad(t, b, console, 1, 0xf0)
	wantStore(t, b, console, 1, 1)
	s := b.State()
	if !bytes.Equal(s.Input, list[1:]) || !bytes.Equal(s.Output, append(bytes.Clone(list[:8]), 1)) || !bytes.Equal(s.Ram[8:], list[8:]) {
		t.Errorf("the state is %s", brief(s))
	}
}

func TestRule3State(t *testing.T) {
	b := of(t, rich())
	first, second := b.State(), b.State()
	spoil(first.Ram, first.Input, first.Output)
	wantState(t, "an answer was changed", b, rich())
	if !same(second, rich()) {
		t.Errorf("another answer has changed: %s", brief(second))
	}
	third := b.State()
	turn(b)
	if !same(third, rich()) {
		t.Errorf("an answer has changed with the bus: %s", brief(third))
	}
	now := b.State()
	spoil(third.Ram, third.Input, third.Output)
	wantState(t, "an older answer was changed", b, now)
}

// TestRule3Within: the lists of one answer are apart, spare room too.
func TestRule3Within(t *testing.T) {
	for _, s := range possible() {
		b := of(t, s)
		got := b.State()
		spoil(got.Ram)
		if !bytes.Equal(got.Input, s.Input) || !bytes.Equal(got.Output, s.Output) {
			t.Error("a state's lists share memory with its Ram")
		}
		spoil(got.Input)
		if !bytes.Equal(got.Output, s.Output) {
			t.Error("a state's lists share memory with its Input")
		}
		wantState(t, "an answer was changed", b, s)
	}
}

func TestRule3Output(t *testing.T) {
	b := of(t, rich())
	first, second := b.Output(), b.Output()
	spoil(first)
	if !bytes.Equal(b.Output(), []byte("out")) || !bytes.Equal(second, []byte("out")) {
		t.Error("the answers of Output share memory")
	}
	wantStore(t, b, console, 1, 'x')
	third := b.Output()
	wantStore(t, b, console, 1, 'y')
	spoil(second, third)
	if !bytes.Equal(b.Output(), []byte("outxy")) {
		t.Errorf("Output answers %q", b.Output())
	}
}

func TestRule3Peek(t *testing.T) {
	for _, n := range []int{0, 1, 4, 15, 16} {
		b := of(t, rich())
		first, _ := b.Peek(ram, n)
		second, _ := b.Peek(ram, n)
		spoil(first)
		wantState(t, "what Peek gave was changed", b, rich())
		turn(b)
		if !bytes.Equal(second, rich().Ram[:n]) {
			t.Errorf("what Peek gave has changed: %x", second)
		}
	}
}

func TestRule3Poke(t *testing.T) {
	p := roomy([]byte{1, 2, 3, 4, 5})
	b := of(t, rich())
	wantPoke(t, b, ram+2, p, api.OK)
	wantPoke(t, b, ram+14, p, api.ErrUnmapped)
	turn(b)
	wantWhole(t, "what Poke was given", p, []byte{1, 2, 3, 4, 5})
	b = of(t, rich())
	wantPoke(t, b, ram+2, p, api.OK)
	now := b.State()
	spoil(p)
	wantState(t, "what Poke was given was changed", b, now)
}

func TestRule3Begin(t *testing.T) {
	for _, n := range []int{1, 5, 63, 64, 65, 200} {
		was := bytes.Repeat([]byte{0x5a}, n)
		for _, full := range []bool{false, true} {
			s := rich()
			s.Input = nil
			if full {
				s.Input = make([]byte, 60)
			}
			b := of(t, s)
			input := roomy(was)
			b.Begin(api.World{Input: input})
			now := b.State()
			wantWhole(t, "the world's Input", input, was)
			spoil(input)
			wantState(t, "the world's Input was changed", b, now)
			spoil(input)
			turn(b)
			wantWhole(t, "the world's Input", input, was)
		}
	}
}

// TestRule3Empty: nil and an empty list are the same where they are handed in.
func TestRule3Empty(t *testing.T) {
	a := of(t, api.Bus{Ram: make([]byte, 8), Input: []byte{}, Output: []byte{}})
	b := of(t, api.Bus{Ram: make([]byte, 8)})
	a.Begin(api.World{Input: []byte{}})
	b.Begin(api.World{})
	wantPoke(t, a, 0, []byte{}, api.OK)
	wantPoke(t, b, 0, nil, api.OK)
	wantState(t, "empty lists and none", a, b.State())
}
