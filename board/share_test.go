package board_test

import (
	"bytes"
	"slices"
	"testing"

	"anvil/api"
	"anvil/board"
)

// scribble changes each byte, those of the spare room too.
func scribble(lists ...[]byte) {
	for _, b := range lists {
		for i := range b[:cap(b)] {
			b[:cap(b)][i] ^= 0xff
		}
	}
}

// roomy is the same bytes with spare room behind them.
func roomy(b []byte) []byte { return append(bytes.Clone(b), "spare room"...)[:len(b)] }

// lent is a deck whose lists all have spare room.
func lent() api.Deck {
	r := random(14)
	d := anyDeck(r, 30)
	d.Cpu = api.Cpu{Pc: ram, Mode: api.M, Mtvec: ram + few}
	for i := range d.Parts {
		d.Parts[i].Data = roomy(d.Parts[i].Data)
	}
	for i := range d.Worlds {
		d.Worlds[i].Input = roomy(append(d.Worlds[i].Input, "in"...)[:min(64, len(d.Worlds[i].Input)+2)])
	}
	d.Parts = append(d.Parts, api.Seg{Addr: 1, Data: []byte("x")})[:len(d.Parts)]
	d.Worlds = append(d.Worlds, api.World{Input: []byte("y")})[:len(d.Worlds)]
	return d
}

// listsOf is every list of bytes of a deck, those in the spare room too.
func listsOf(d api.Deck) [][]byte {
	var all [][]byte
	for _, p := range d.Parts[:cap(d.Parts)] {
		all = append(all, p.Data)
	}
	for _, w := range d.Worlds[:cap(d.Worlds)] {
		all = append(all, w.Input)
	}
	return all
}

// untouched holds that a deck is as lent has made it, its spare room too.
func untouched(t *testing.T, d api.Deck) {
	t.Helper()
	whole := func(b []byte) []byte { return b[:cap(b)] }
	mine, its := listsOf(d), listsOf(lent())
	samePart := func(a, b api.Seg) bool { return a.Addr == b.Addr && a.Size == b.Size && a.Flags == b.Flags }
	sameWorld := func(a, b api.World) bool { return a.Tick == b.Tick && a.Ext == b.Ext && a.Soft == b.Soft }
	same := slices.EqualFunc(mine, its, func(a, b []byte) bool { return len(a) == len(b) && bytes.Equal(whole(a), whole(b)) })
	if !same || !slices.EqualFunc(d.Parts, lent().Parts, samePart) || !slices.EqualFunc(d.Worlds, lent().Worlds, sameWorld) || d.Cpu != lent().Cpu {
		t.Error("rule 3: the deck has changed")
	}
}

// TestRule3New: a board keeps nothing of its deck, and does not change it; steps neither.
func TestRule3New(t *testing.T) {
	d := lent()
	b, other := made(t, d), made(t, lent())
	untouched(t, d)
	scribble(listsOf(d)...)
	clear(d.Parts[:cap(d.Parts)])
	holds(t, "rule 3", b, other.Whole())
	for i, w := range lent().Worlds {
		if mine, its := b.Step(w), other.Step(lent().Worlds[i]); mine != its {
			t.Fatalf("rule 3: the rows are\n%+v\n%+v", mine, its)
		}
		scribble(w.Input)
		holds(t, "rule 3", b, other.Whole())
	}
	d = lent()
	steps(made(t, d), d.Worlds)
	untouched(t, d)
}

// TestRule3From: a board keeps nothing of its whole, and does not change it.
func TestRule3From(t *testing.T) {
	w := rich()
	w.Bus.Ram, w.Bus.Input, w.Bus.Output = roomy(w.Bus.Ram), roomy(w.Bus.Input), roomy(w.Bus.Output)
	b := again(t, w)
	steps(b, worlds(2))
	b.Poke(ram, []byte{0xff})
	lists := [][]byte{w.Bus.Ram, w.Bus.Input, w.Bus.Output}
	for i, was := range [][]byte{rich().Bus.Ram, rich().Bus.Input, rich().Bus.Output} {
		if own := lists[i]; !bytes.Equal(own[:cap(own)], roomy(was)[:cap(own)]) {
			t.Errorf("rule 3: list %d has changed", i)
		}
	}
	b = again(t, w)
	scribble(lists...)
	holds(t, "rule 3", b, rich())
}

// TestRule3Whole: a whole that was handed out can be written over, and no two share memory, spare room with it.
func TestRule3Whole(t *testing.T) {
	b := again(t, rich())
	for range 3 {
		first, second := b.Whole(), b.Whole()
		scribble(first.Bus.Ram, first.Bus.Input, first.Bus.Output)
		first.Cpu = api.Cpu{}
		if !sameWhole(second, rich()) {
			t.Error("rule 3: two wholes share memory")
		}
		holds(t, "rule 3", b, rich())
		scribble(second.Bus.Input)
		if !bytes.Equal(second.Bus.Ram, rich().Bus.Ram) || !bytes.Equal(second.Bus.Output, rich().Bus.Output) {
			t.Error("rule 3: two lists of a whole share memory")
		}
	}
	b.Poke(ram, []byte("abcd"))
	old := b.Whole()
	b.Poke(ram, []byte("efgh"))
	steps(b, []api.World{{Input: []byte("more")}})
	if string(old.Bus.Ram[:4]) != "abcd" || string(old.Bus.Input) != string(rich().Bus.Input) {
		t.Error("rule 3: a whole changes with its board")
	}
}

// TestRule3Poke: bytes that were put can be written over.
func TestRule3Poke(t *testing.T) {
	b := made(t, plain(16))
	p := roomy([]byte("abcdefgh"))
	for _, addr := range []uint64{ram + 4, ram + 15} {
		b.Poke(addr, p)
		if !bytes.Equal(p[:cap(p)], roomy([]byte("abcdefgh"))[:cap(p)]) {
			t.Error("rule 3: Poke changes what it is given")
		}
	}
	scribble(p)
	want := fresh(16)
	copy(want.Bus.Ram[4:], "abcdefgh")
	holds(t, "rule 3", b, want)
}

// TestRule3Play: a trace is new memory, and the deck is not changed.
func TestRule3Play(t *testing.T) {
	lines := []string{"lui a0, 0x10000", "addi a1, zero, 72", "1: sb a1, 0(a0)", "j 1b"}
	d := sourced(t, 64, lines...)
	d.Worlds = worlds(20)
	first, second := played(t, d), played(t, d)
	want := string(second.Output)
	if len(want) != 9 {
		t.Fatalf("the output is %q", want)
	}
	scribble(first.Output)
	clear(first.Rows[:cap(first.Rows)])
	if third := played(t, d); !sameTrace(second, third) || string(second.Output) != want {
		t.Error("rule 3: two traces share memory")
	}
	own := lent()
	was := played(t, own)
	untouched(t, own)
	scribble(listsOf(own)...)
	if !sameTrace(was, played(t, lent())) {
		t.Error("rule 3: a trace hangs on its deck")
	}
	own = lent()
	own.Ram = 12
	board.Play(own)
	board.New(own)
	own.Ram = lent().Ram
	untouched(t, own)
}

// TestRule3Many: the list of texts is not changed, nor kept, and the answer is a list of its own.
func TestRule3Many(t *testing.T) {
	texts := mixed(t, 300, 20)
	texts = append(texts, "spare")[:20]
	was := slices.Clone(texts[:cap(texts)])
	first, _ := board.Many(texts)
	if !slices.Equal(texts[:cap(texts)], was) {
		t.Error("rule 3: Many changes its texts")
	}
	second, _ := board.Many(texts)
	want := slices.Clone(second)
	clear(first[:cap(first)])
	clear(texts)
	if !slices.Equal(second, want) {
		t.Error("rule 3: two answers share memory")
	}
}
