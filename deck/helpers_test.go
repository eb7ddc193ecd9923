package deck_test

import (
	"bytes"
	"encoding/hex"
	"errors"
	"math/rand/v2"
	"slices"
	"strings"
	"testing"

	"anvil/api"
	"anvil/deck"
	"anvil/image"
)

// The numbers as the document writes them.
const (
	ram      = 0x80000000
	maxText  = 400000
	maxLine  = 1000
	maxParts = 16
	maxSteps = 4000
	maxInput = 64
	maxRam   = 65536
	uxl      = 0x200000000
)

func random(seed uint64) *rand.Rand { return rand.New(rand.NewPCG(14, seed)) }

// joined is lines, each with its end.
func joined(lines ...string) string { return strings.Join(lines, "\n") + "\n" }

// behindHead is a deck with 64 bytes of RAM: its first line has the number 3.
func behindHead(lines ...string) string {
	return joined(append([]string{"anvil 1", "ram 64"}, lines...)...)
}

// plain is the deck that says nothing but its RAM.
func plain(size int) api.Deck {
	return api.Deck{Ram: size, Cpu: api.Cpu{Pc: ram, Mode: api.M, Mstatus: uxl}}
}

// shown is the beginning of a text that may be long.
func shown(text string) string {
	if len(text) > 400 {
		return text[:400] + " .."
	}
	return text
}

// read is the deck of a text that must have no fault.
func read(t *testing.T, text string) api.Deck {
	t.Helper()
	d, err := deck.Parse(text)
	if err != nil {
		t.Fatalf("P14.1: %q: %v", shown(text), err)
	}
	return d
}

// reads: a text must be read as this deck.
func reads(t *testing.T, text string, want api.Deck) {
	t.Helper()
	if d := read(t, text); !sameDeck(d, want) {
		t.Errorf("P14.1: %q is\n%+v, want\n%+v", shown(text), d, want)
	}
}

// says: lines behind the head must be read as the plain deck with this change.
func says(t *testing.T, change func(d *api.Deck), lines ...string) {
	t.Helper()
	want := plain(64)
	change(&want)
	reads(t, behindHead(lines...), want)
}

// refusedAt: a text must have this first fault, as errors.Is and errors.As find it, and nothing else.
func refusedAt(t *testing.T, text string, line, at int, why api.Errno) {
	t.Helper()
	d, err := deck.Parse(text)
	var f *api.Fault
	switch {
	case !errors.As(err, &f) || !errors.Is(err, why) || *f != api.Fault{Line: line, At: at, Why: why}:
		t.Errorf("P14.1: %q: %v, want error %d at %d of line %d", shown(text), err, why, at, line)
	case !sameDeck(d, api.Deck{}) || d.Parts != nil || d.Worlds != nil:
		t.Errorf("P14.1: %q: a deck beside the fault: %+v", shown(text), d)
	}
}

func refused(t *testing.T, text string, line int, why api.Errno) {
	t.Helper()
	refusedAt(t, text, line, 0, why)
}

// refuses: of lines behind the head the last one must be refused.
func refuses(t *testing.T, why api.Errno, lines ...string) {
	t.Helper()
	refused(t, behindHead(lines...), 2+len(lines), why)
}

func sameDeck(a, b api.Deck) bool {
	samePart := func(x, y api.Seg) bool {
		return x.Addr == y.Addr && x.Size == y.Size && x.Flags == y.Flags && bytes.Equal(x.Data, y.Data)
	}
	sameWorld := func(x, y api.World) bool {
		return x.Tick == y.Tick && x.Ext == y.Ext && x.Soft == y.Soft && bytes.Equal(x.Input, y.Input)
	}
	return a.Ram == b.Ram && a.Cpu == b.Cpu && a.Mtime == b.Mtime &&
		slices.EqualFunc(a.Parts, b.Parts, samePart) && slices.EqualFunc(a.Worlds, b.Worlds, sameWorld)
}

func sameTrace(a, b api.Trace) bool {
	return slices.Equal(a.Rows, b.Rows) && a.Cpu == b.Cpu && a.Off == b.Off && a.Code == b.Code && bytes.Equal(a.Output, b.Output)
}

// dataLines is bytes as data lines of so many bytes each.
func dataLines(b []byte, each int) []string {
	var lines []string
	for piece := range slices.Chunk(b, each) {
		lines = append(lines, "data "+hex.EncodeToString(piece))
	}
	return lines
}

// file is the ELF file of a program with these parts.
func file(t *testing.T, entry uint64, parts ...api.Seg) []byte {
	t.Helper()
	b, why := image.Write(api.Image{Entry: entry, Segs: parts})
	if why != api.OK {
		t.Fatalf("image.Write answers error %d", why)
	}
	return b
}

// asElf is the lines of an elf with these bytes.
func asElf(b []byte) []string { return append([]string{"elf"}, dataLines(b, 32)...) }

// bytesUpTo is so many bytes, none of them alike with its neighbours.
func bytesUpTo(size int) []byte {
	b := make([]byte, size)
	for i := range b {
		b[i] = byte(7*i + 1)
	}
	return b
}

// filled is a text with comment lines behind it, so that it has just so many bytes.
func filled(text string, size int) string {
	var b strings.Builder
	b.WriteString(text)
	for b.Len() < size {
		b.WriteString(strings.Repeat("#", min(size-b.Len(), maxLine)-1) + "\n")
	}
	return b.String()
}
