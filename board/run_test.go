package board_test

import (
	"encoding/hex"
	"errors"
	"strings"
	"testing"

	"anvil/api"
	"anvil/board"
	"anvil/deck"
	"anvil/image"
)

// fails: a text must have this fault, as errors.As and errors.Is find it, and no trace.
func fails(t *testing.T, text string, line, at int, why api.Errno) {
	t.Helper()
	told, err := board.Run(text)
	var f *api.Fault
	if told != "" || !errors.As(err, &f) || *f != (api.Fault{Line: line, At: at, Why: why}) || !errors.Is(err, why) {
		t.Errorf("P15.6: Run answers %q, %v, want error %d at %d of line %d", told, err, why, at, line)
	}
	if errors.Is(err, api.ErrBoard) || errors.Is(err, api.OK) {
		t.Errorf("P15.6: %v is more than one error", err)
	}
	if _, own := deck.Parse(text); own == nil || own.Error() != err.Error() {
		t.Errorf("P15.6: Run answers %v, Parse %v", err, own)
	}
}

// TestP15_6Faults: of a text that is no deck Run answers Parse's fault.
func TestP15_6Faults(t *testing.T) {
	head := "anvil 1\nram 64\n"
	fails(t, "", 1, 0, api.ErrLine)
	fails(t, "anvil 1\n", 2, 0, api.ErrLine)
	fails(t, "anvil 2\nram 64\n", 1, 0, api.ErrLine)
	fails(t, head+"bla\n", 3, 0, api.ErrLine)
	fails(t, head+"step\n\n# x\npc 0\n", 6, 0, api.ErrLine)
	fails(t, head+"reg a9 0\n", 3, 0, api.ErrName)
	fails(t, "anvil 1\nram 12\n", 2, 0, api.ErrSetting)
	fails(t, head+"part 0x80000000 65 rx\n", 3, 0, api.ErrSetting)
	fails(t, head+"steps 0\n", 3, 0, api.ErrSetting)
	fails(t, head+"steps 4001\n", 3, 0, api.ErrMany)
	fails(t, head+"steps 4000\nstep\n", 4, 0, api.ErrMany)
	fails(t, head+strings.Repeat("part 0x80000000 0 -\n", 17), 19, 0, api.ErrMany)
	fails(t, head+`step input "`+strings.Repeat("a", 65)+"\"\n", 3, 0, api.ErrSetting)
	fails(t, head+"#"+strings.Repeat("a", 1000)+"\n", 3, 0, api.ErrLong)
	fails(t, strings.Repeat("\n", 400001), 0, 0, api.ErrText)
	fails(t, head+"source\nnop\n j there\nend\n", 5, 3, api.ErrNoName)
	fails(t, head+"source\nnop\n foo a0\nend\nstep\n", 5, 1, api.ErrWord)
	fails(t, head+"source\nnop\n", 5, 0, api.ErrLine)
	fails(t, head+"# an elf\nelf\ndata 7f454c46\nstep\n", 4, 4, api.ErrEnd)
	fails(t, head+"source\n.zero 72\nend\n", 3, 0, api.ErrSetting)
}

// TestP15_6Elf: the place of a file's fault is the place in the file, at the line of its elf.
func TestP15_6Elf(t *testing.T) {
	file, e := image.Write(api.Image{Entry: ram, Segs: []api.Seg{{Addr: ram, Size: 4, Flags: 5, Data: bytesOf(0x13)}}})
	if e != api.OK {
		t.Fatal(e)
	}
	lines := func(b []byte) string { return "anvil 1\nram 64\nelf\ndata " + hex.EncodeToString(b) + "\nstep\n" }
	if told := ran(t, lines(file)); !strings.Contains(told, "addi zero, zero, 0") {
		t.Errorf("P15.6: the trace is\n%s", told)
	}
	for place := range file {
		file[place] ^= 0x40
		_, err := image.Read(file)
		var f *api.Fault
		if errors.As(err, &f) {
			fails(t, lines(file), 3, f.At, f.Why)
		}
		file[place] ^= 0x40
	}
}

// TestP15_6Trace: Run of a deck is the text of its play.
func TestP15_6Trace(t *testing.T) {
	r := random(10)
	for range 400 {
		d := anyDeck(r, r.IntN(50))
		text := printed(t, d)
		told := ran(t, text)
		tr := played(t, d)
		want, e := deck.PrintTrace(tr)
		if e != api.OK || told != want {
			t.Fatalf("P15.6: error %d; the trace is\n%s, want\n%s", e, told, want)
		}
		back, err := deck.ParseTrace(told)
		if err != nil || !sameTrace(back, tr) {
			t.Fatalf("P14: the trace reads as\n%+v, %v, want\n%+v", back, err, tr)
		}
		if d, err := deck.Parse(text); err != nil || printed(t, d) != text {
			t.Fatalf("P14: the deck reads as\n%+v, %v", d, err)
		}
	}
}

// TestP15_10Same: Run of the same text is the same again, whatever was run between.
func TestP15_10Same(t *testing.T) {
	r := random(11)
	first := map[string]string{}
	var texts []string
	for range 60 {
		texts = append(texts, printed(t, anyDeck(r, 30)))
	}
	texts = append(texts, "", "no deck", "anvil 1\nram 64\nj\n")
	for _, one := range examples() {
		texts = append(texts, one.deck)
	}
	for range 2000 {
		text := texts[r.IntN(len(texts))]
		told, err := board.Run(text)
		if (err != nil) != (told == "") {
			t.Fatalf("rule 2: Run answers %q and %v", told, err)
		}
		if was, is := first[text]; is && was != told {
			t.Fatalf("P15.10: of\n%s\nthe trace is\n%s, was\n%s", text, told, was)
		}
		first[text] = told
		if r.IntN(20) == 0 {
			board.Many(texts[:10])
		}
	}
}
