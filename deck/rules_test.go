package deck_test

import (
	"bytes"
	"errors"
	"slices"
	"strings"
	"sync"
	"testing"

	"anvil/api"
	"anvil/deck"
)

// richText is a deck's text with every kind of line, runs of worlds with inputs among them.
func richText(t *testing.T) string {
	b, _ := sample(t)
	lines := slices.Concat([]string{"anvil 1", "ram 64", "mtime 5", "pmp 3 0x1f 9", "reg a0 1", "part 0x80000000 40 rw"}, dataLines(bytesUpTo(40), 7),
		[]string{"part 0x80000000 8 r", "data 0102"}, asElf(b), []string{"source", "nop", ".data", ".byte 1", "end", "source", "nop", "nop", "end", `steps 5 input "abc"`, `step input "abc"`, "step", `steps 2 tick input "x"`})
	return joined(lines...)
}

// listsOf is every list of bytes of a deck, with its spare room.
func listsOf(d api.Deck) [][]byte {
	var all [][]byte
	for _, p := range d.Parts[:cap(d.Parts)] {
		all = append(all, p.Data[:cap(p.Data)])
	}
	for _, w := range d.Worlds[:cap(d.Worlds)] {
		all = append(all, w.Input[:cap(w.Input)])
	}
	return all
}

// scribble changes each byte.
func scribble(b []byte) {
	for i := range b {
		b[i] ^= 0xff
	}
}

// TestRule3Parse: no two lists of a deck that was read share memory, spare room with them, nor do two decks.
func TestRule3Parse(t *testing.T) {
	text := richText(t)
	d, other := read(t, text), read(t, text)
	if len(d.Parts) != 7 || len(d.Worlds) != 9 {
		t.Fatalf("%d parts, %d worlds: the test has grown idle", len(d.Parts), len(d.Worlds))
	}
	lists := listsOf(d)
	for i, own := range lists {
		var kept [][]byte
		for _, l := range lists {
			kept = append(kept, bytes.Clone(l))
		}
		scribble(own)
		for j, l := range lists {
			if j != i && !bytes.Equal(l, kept[j]) {
				t.Errorf("rule 3: lists %d and %d of one deck share memory", i, j)
			}
		}
	}
	clear(d.Parts[:cap(d.Parts)])
	clear(d.Worlds[:cap(d.Worlds)])
	reads(t, text, other)
	want, _ := modelParse(text)
	if !sameDeck(other, want) {
		t.Error("rule 3: two decks share memory")
	}
}

// TestRule3Print: a deck that is printed stays as it is, spare room with it.
func TestRule3Print(t *testing.T) {
	room := func(b []byte) []byte { return append(bytes.Clone(b), "spare"...)[:len(b)] }
	made := func() api.Deck {
		d := read(t, richText(t))
		d.Cpu = api.Cpu{Pc: 5, Mode: 7, Mie: 1<<64 - 1}
		for i := range d.Parts {
			d.Parts[i].Data = room(d.Parts[i].Data)
		}
		for i := range d.Worlds {
			d.Worlds[i].Input = room(d.Worlds[i].Input)
		}
		d.Parts = append(d.Parts, api.Seg{Flags: -1})[:len(d.Parts)]
		d.Worlds = append(d.Worlds, api.World{Input: []byte("y")})[:len(d.Worlds)]
		return d
	}
	d, kept := made(), made()
	text, why := deck.Print(d)
	if why != api.OK {
		t.Fatalf("error %d", why)
	}
	isKept := func() {
		t.Helper()
		whole := func(d api.Deck) api.Deck {
			d.Parts, d.Worlds = d.Parts[:len(d.Parts)+1], d.Worlds[:len(d.Worlds)+1]
			return d
		}
		if !sameDeck(whole(d), whole(kept)) || !slices.EqualFunc(listsOf(d), listsOf(kept), bytes.Equal) {
			t.Error("rule 3: Print changed what was handed in")
		}
	}
	isKept()
	for _, l := range listsOf(d) {
		scribble(l)
	}
	prints(t, kept, text)
	d = made()
	d.Ram, kept.Ram = 12, 12
	cannotPrint(t, d, api.ErrSetting)
	isKept()
}

// TestRule3Trace: neither does a trace that was read share memory with another, nor is one changed that is printed.
func TestRule3Trace(t *testing.T) {
	want := full()
	text := modelTrace(want)
	tr, _ := deck.ParseTrace(text)
	other, _ := deck.ParseTrace(text)
	scribble(tr.Output[:cap(tr.Output)])
	clear(tr.Rows[:cap(tr.Rows)])
	if !sameTrace(other, want) {
		t.Error("rule 3: two traces share memory")
	}
	given := full()
	given.Rows = append(given.Rows, api.Row{Kind: 9})[:len(given.Rows)]
	given.Output = append(given.Output, "spare"...)[:len(given.Output)]
	rows, output := slices.Clone(given.Rows[:cap(given.Rows)]), bytes.Clone(given.Output[:cap(given.Output)])
	if again, why := deck.PrintTrace(given); again != text || why != api.OK {
		t.Errorf("%q, error %d", again, why)
	}
	given.Code = -1
	deck.PrintTrace(given)
	if !slices.Equal(rows, given.Rows[:cap(given.Rows)]) || !bytes.Equal(output, given.Output[:cap(given.Output)]) {
		t.Error("rule 3: PrintTrace changed what was handed in")
	}
}

// TestRule4Same: the same call answers the same, whoever else calls.
func TestRule4Same(t *testing.T) {
	text, trace := richText(t), modelTrace(full())
	want, _ := modelParse(text)
	var all sync.WaitGroup
	for range 8 {
		all.Go(func() {
			for range 20 {
				d, err := deck.Parse(text)
				if err != nil || !sameDeck(d, want) {
					t.Errorf("rule 4: another deck, or %v", err)
				}
				if own, why := deck.Print(d); own != modelPrint(want) || why != api.OK {
					t.Errorf("rule 4: %q, error %d", own, why)
				}
				tr, err := deck.ParseTrace(trace)
				if err != nil || !sameTrace(tr, full()) {
					t.Errorf("rule 4: another trace, or %v", err)
				}
				if own, why := deck.PrintTrace(tr); own != trace || why != api.OK {
					t.Errorf("rule 4: %q, error %d", own, why)
				}
			}
		})
	}
	all.Wait()
}

// TestRule1Great: the greatest texts are answered soon.
func TestRule1Great(t *testing.T) {
	t.Parallel()
	fill := func(line string) string {
		return behindHead(strings.TrimSuffix(strings.Repeat(line+"\n", (maxText-20)/(len(line)+1)), "\n"))
	}
	for _, line := range []string{"pc 8", "csr 0x300 0", "csr minstret 0", "reg t6 0", "pmp 15 0 0", "source\nend", "mode u\n#", "", "waiting", "pc " + strings.Repeat("0", 990), "# " + strings.Repeat("\"", 990)} {
		read(t, fill(line))
	}
	b := file(t, ram)
	lines := strings.Join(asElf(b), "\n")
	read(t, fill(lines))
	read(t, behindHead(append([]string{"elf"}, dataLines(append(bytes.Clone(b), make([]byte, 190000)...), 490)...)...))
	for _, text := range []string{fill("step"), fill("part 0x80000000 0 -"), fill("data 00"), strings.Repeat("\"", maxText), fill(`step input "` + strings.Repeat(`\x41`, 200) + `"`)} {
		if _, err := deck.Parse(text); err == nil {
			t.Errorf("%q is read", shown(text))
		}
	}
}

// TestRule1AnyTrace: every text is answered, none by a panic, and as the model does.
func TestRule1AnyTrace(t *testing.T) {
	t.Parallel()
	r := random(11)
	words := []string{"anvil trace 1\n", "1 off m 0x0", " -> ", "m 0x2", "\n", "\n", "end running\n", "end failed 3\n", "pc 0x2\n", "mode m\n", "waiting\n", "reg a0 0x1\n", "csr mie 0x8\n", "pmp 1 0x1 0x0\n", "res 0x8 8\n", "output \"a\"\n", " ", "=", "\"", "\\", " raw=0x1", " len=2", " ; c.nop", "0", "\xff"}
	for range 6000 {
		text := one(r, "", "anvil trace 1\n", "anvil trace 1\nend running\n", "anvil trace 1\nend passed\npc 0x0\nmode u\n")
		for range r.IntN(8) {
			text += one(r, words...)
		}
		heldToFault(t, text)
	}
	for range 2000 {
		b := make([]byte, r.IntN(60))
		for i := range b {
			b[i] = byte(r.Uint32())
		}
		if _, err := deck.ParseTrace(string(b)); !errors.Is(err, api.ErrTrace) {
			t.Errorf("P14.5: %q: %v", b, err)
		}
	}
}

// TestRule1AnyValues: decks and traces of any numbers are answered, none by a panic.
func TestRule1AnyValues(t *testing.T) {
	r := random(12)
	for range 3000 {
		d := anyDeck(r)
		d.Ram += int(sparse(r))
		for i := range d.Parts {
			d.Parts[i].Size += sparse(r)
			d.Parts[i].Addr ^= sparse(r)
			d.Parts[i].Flags ^= int(sparse(r))
		}
		d.Cpu.Mode = int(sparse(r))
		if text, why := deck.Print(d); (text == "") == (why == api.OK) {
			t.Errorf("rule 2: %q beside error %d", text, why)
		}
		tr := anyTrace(r)
		tr.Off, tr.Code = tr.Off^int(sparse(r)), int(sparse(r))
		for i := range tr.Rows {
			row := &tr.Rows[i]
			row.Step, row.Kind, row.Mode, row.Len = int(r.Uint64()), int(sparse(r)), int(sparse(r)), int(sparse(r))
			row.Rd, row.Mem, row.Size, row.NextMode = int(sparse(r)), int(sparse(r)), int(sparse(r)), int(sparse(r))
		}
		if text, why := deck.PrintTrace(tr); (text == "") == (why == api.OK) {
			t.Errorf("rule 2: %q beside error %d", text, why)
		}
	}
}
