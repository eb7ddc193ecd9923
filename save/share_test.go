package save_test

import (
	"bytes"
	"testing"

	"anvil/api"
	"anvil/save"
)

// scribble changes each byte, those of the spare room too.
func scribble(lists ...[]byte) {
	for _, b := range lists {
		for i := range b[:cap(b)] {
			b[:cap(b)][i] ^= 0xff
		}
	}
}

// roomy is the same bytes with spare room behind them.
func roomy(b []byte) []byte { return append(bytes.Clone(b), "spare room"...)[:len(b)] }

// untouched: a list must be the bytes that roomy has made it of, its spare room too.
func untouched(t *testing.T, what string, b, was []byte) {
	t.Helper()
	if !bytes.Equal(b[:len(was)+10], append(bytes.Clone(was), "spare room"...)) {
		t.Errorf("rule 3: %s has changed", what)
	}
}

// lent is a whole whose lists have spare room.
func lent(w api.Whole) api.Whole {
	w.Bus.Ram, w.Bus.Input, w.Bus.Output = roomy(w.Bus.Ram), roomy(w.Bus.Input), roomy(w.Bus.Output)
	return w
}

// kinds is wholes with and without pages and lists, and one that cannot be.
func kinds() []api.Whole {
	empty, wrong := rich(), rich()
	empty.Bus.Input, empty.Bus.Output = nil, nil
	wrong.Bus.Msip = 2
	return []api.Whole{least(), rich(), greatest(), empty, wrong}
}

// TestRule3Save: a whole that is handed in is not changed, and not kept in the snapshot.
func TestRule3Save(t *testing.T) {
	for _, was := range kinds() {
		w := lent(was)
		save.Check(w)
		b, _ := save.Save(w)
		other, _ := save.Save(w)
		kept := bytes.Clone(b)
		if w.Cpu != was.Cpu {
			t.Error("rule 3: the Cpu that was handed in has changed")
		}
		check := func() {
			t.Helper()
			untouched(t, "Ram", w.Bus.Ram, was.Bus.Ram)
			untouched(t, "Input", w.Bus.Input, was.Bus.Input)
			untouched(t, "Output", w.Bus.Output, was.Bus.Output)
		}
		check()
		scribble(b)
		check()
		if !bytes.Equal(other, kept) {
			t.Error("rule 3: two snapshots share memory")
		}
		scribble(w.Bus.Ram, w.Bus.Input, w.Bus.Output)
		if !bytes.Equal(other, kept) {
			t.Error("rule 3: a snapshot shares memory with its whole")
		}
	}
}

// TestRule3OneList: a whole whose lists are one is saved as one whose lists are three.
func TestRule3OneList(t *testing.T) {
	list := []byte("the same list for all of them...")
	w, want := least(), least()
	w.Bus.Ram, w.Bus.Input, w.Bus.Output = list, list, list[:7]
	want.Bus.Ram, want.Bus.Input, want.Bus.Output = bytes.Clone(list), bytes.Clone(list), bytes.Clone(list[:7])
	if !bytes.Equal(saved(t, w), saved(t, want)) {
		t.Error("rule 3: lists that share memory are saved in another way")
	}
	got := loaded(t, saved(t, w))
	scribble(got.Bus.Ram)
	if !bytes.Equal(got.Bus.Input, list) || !bytes.Equal(got.Bus.Output, list[:7]) {
		t.Error("rule 3: the lists of a whole share memory")
	}
}

// TestRule3Load: bytes that are handed in are not changed, and not kept in the whole; the whole's lists are apart, spare room too.
func TestRule3Load(t *testing.T) {
	for _, want := range kinds()[1:4] {
		was := saved(t, want)
		b := roomy(was)
		w, other := loaded(t, b), loaded(t, b)
		untouched(t, "what Load was given", b, was)
		scribble(w.Bus.Ram)
		if !bytes.Equal(w.Bus.Input, want.Bus.Input) || !bytes.Equal(w.Bus.Output, want.Bus.Output) {
			t.Error("rule 3: lists of a whole share memory with its Ram")
		}
		scribble(w.Bus.Input)
		if !bytes.Equal(w.Bus.Output, want.Bus.Output) {
			t.Error("rule 3: lists of a whole share memory")
		}
		scribble(w.Bus.Output)
		untouched(t, "what Load was given", b, was)
		if !same(other, want) {
			t.Error("rule 3: two wholes share memory")
		}
		scribble(b)
		if !same(other, want) {
			t.Error("rule 3: a whole shares memory with its snapshot")
		}
	}
}

// TestRule3Refused: bytes that are refused are not changed either.
func TestRule3Refused(t *testing.T) {
	for _, f := range faults() {
		d := drafted(rich())
		f.change(&d)
		was := d.bytes()
		b := roomy(was)
		save.Load(b)
		untouched(t, "what Load was given", b, was)
	}
}

// TestRule3Empty: nil and an empty list are the same where they are handed in.
func TestRule3Empty(t *testing.T) {
	w, empty := least(), least()
	empty.Bus.Input, empty.Bus.Output = []byte{}, []byte{}
	if !bytes.Equal(saved(t, w), saved(t, empty)) {
		t.Error("rule 3: empty lists are saved in another way than none")
	}
	refused(t, "an empty list", []byte{}, api.ErrShape)
}
