package gdb_test

import (
	"bytes"
	"testing"

	"anvil/api"
	"anvil/gdb"
)

// scribble changes each byte, those of the spare room too.
func scribble(lists ...[]byte) {
	for _, b := range lists {
		for i := range b[:cap(b)] {
			b[:cap(b)][i] ^= 0xff
		}
	}
}

// roomy is the same bytes with spare room behind them.
func roomy(b string) []byte { return append([]byte(b), "spare room"...)[:len(b)] }

// untouched: bytes that were made by roomy must be as they were, their spare room too.
func untouched(t *testing.T, b []byte, was string) {
	t.Helper()
	if string(b) != was || string(b[:len(b)+10][len(b):]) != "spare room" {
		t.Errorf("rule 3: what was handed in, %.40q, is %.60q now", was, b[:len(b)+10])
	}
}

// TestRule3Packets: Pack and Unpack change nothing of what is handed in, and share nothing with it.
func TestRule3Packets(t *testing.T) {
	for _, payload := range []string{"", "a", "a}b#c", "0123456789abcdef"} {
		p := roomy(payload)
		b, _ := gdb.Pack(p)
		untouched(t, p, payload)
		scribble(p)
		if string(b) != packet(payload) {
			t.Errorf("rule 3: the packet is %q now", b)
		}
		p = roomy(payload)
		scribble(b)
		untouched(t, p, payload)
		b = roomy(packet(payload))
		back, _ := gdb.Unpack(b)
		other, _ := gdb.Unpack(b)
		untouched(t, b, packet(payload))
		scribble(b, other)
		if string(back) != payload {
			t.Errorf("rule 3: the payload is %q now", back)
		}
		b = roomy(packet(payload))
		scribble(back)
		untouched(t, b, packet(payload))
	}
	for _, bad := range []string{"$a", "$a#00", "$}#7d"} {
		b := roomy(bad)
		gdb.Unpack(b)
		untouched(t, b, bad)
	}
}

// lent is a deck whose lists all have spare room.
func lent() api.Deck {
	d := little()
	d.Parts[0].Data = roomy(string(d.Parts[0].Data))
	for _, w := range brought() {
		w.Input = roomy(string(w.Input) + "in")
		d.Worlds = append(d.Worlds, w)
	}
	d.Parts = append(d.Parts, api.Seg{Addr: 1, Data: []byte("x")})[:1]
	d.Worlds = append(d.Worlds, api.World{Input: []byte("y")})[:len(brought())]
	return d
}

// TestRule3New: a stub keeps nothing of its deck: its parts, its worlds and their inputs may be written over at once, or behind some steps.
func TestRule3New(t *testing.T) {
	for first := range len(brought()) + 1 {
		d := lent()
		s, other := made(t, d), made(t, lent())
		for range first {
			s.Feed([]byte(packet("s")))
			other.Feed([]byte(packet("s")))
		}
		for i, w := range d.Worlds {
			if want := lent().Worlds[i]; !bytes.Equal(w.Input[:cap(w.Input)][:len(w.Input)+10], want.Input[:len(want.Input)+10]) || w.Tick != want.Tick || w.Ext != want.Ext || w.Soft != want.Soft {
				t.Errorf("rule 3: world %d has changed", i)
			}
			scribble(w.Input)
		}
		untouched(t, d.Parts[0].Data, string(little().Parts[0].Data))
		if rest := d.Worlds[:len(d.Worlds)+1][len(d.Worlds)]; string(rest.Input) != "y" || d.Parts[:2][1].Addr != 1 {
			t.Error("rule 3: the spare room has changed")
		}
		scribble(d.Parts[0].Data)
		clear(d.Parts[:cap(d.Parts)])
		clear(d.Worlds[:cap(d.Worlds)])
		for range len(brought()) + 2 {
			s.Feed([]byte(packet("s")))
			other.Feed([]byte(packet("s")))
			holds(t, "rule 3", s, other.Whole(), other.Steps())
		}
	}
}

// TestRule3Feed: bytes that were fed may be written over, in the midst of a packet too, and so may those that were sent: nothing of the stub changes, nor what it sends once more.
func TestRule3Feed(t *testing.T) {
	talk := ""
	for _, p := range []string{"X80000008,8:#bytes}*", "m80000008,8", "g", "Z0,80000004,2", "Z4,8000000a,2", "c", "m80000000,10", "Pa=0102030405060708", "pa", "qSupported", "vCont?", "bad", "s"} {
		talk += packet(p) + "--" + wrong(packet(p))
	}
	for _, length := range []int{1, 2, 3, 7, 50, len(talk)} {
		s, other := made(t, little()), made(t, little())
		var sent [][]byte
		for rest := talk; rest != ""; {
			piece := rest[:min(length, len(rest))]
			rest = rest[len(piece):]
			in := roomy(piece)
			out := s.Feed(in)
			untouched(t, in, piece)
			scribble(in)
			if want := other.Feed([]byte(piece)); !bytes.Equal(out, want) {
				t.Fatalf("rule 3: for %q it sends %q, want %q", piece, out, want)
			}
			kept := bytes.Clone(out)
			for _, b := range sent {
				scribble(b)
			}
			if !bytes.Equal(out, kept) {
				t.Errorf("rule 3: two answers share memory")
			}
			scribble(out)
			sent = append(sent, out)
			holds(t, "rule 3", s, other.Whole(), other.Steps())
		}
	}
}

// TestRule3Whole: what Whole answers may be written over.
func TestRule3Whole(t *testing.T) {
	s := made(t, lent())
	run(s, "s", "s", "s")
	w := s.Whole()
	stays(t, "rule 3", s, func() { scribble(w.Bus.Ram, w.Bus.Input, w.Bus.Output) })
	first, second := s.Whole(), s.Whole()
	scribble(first.Bus.Ram, first.Bus.Input, first.Bus.Output)
	if !same(second, s.Whole()) {
		t.Error("rule 3: two wholes share memory")
	}
	ask(t, s, "m80000000,6", "05050505"+"01a0")
}
