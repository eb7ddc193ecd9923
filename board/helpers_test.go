package board_test

import (
	"bytes"
	"math"
	"slices"
	"strconv"
	"strings"
	"testing"

	"anvil/api"
	"anvil/board"
	"anvil/deck"
)

// The numbers as the document writes them.
const (
	finisher = 0x100000
	msip     = 0x2000000
	mtimecmp = 0x2004000
	mtime    = 0x200bff8
	console  = 0x10000000
	ram      = 0x80000000
	maxRam   = 65536
	maxParts = 16
	maxSteps = 4000
	maxInput = 64
	maxDecks = 64
	ones     = math.MaxUint64
	uxl      = 0x200000000
	head     = "anvil trace 1\n"
)

// joined is lines, each with its end.
func joined(lines ...string) string { return strings.Join(lines, "\n") + "\n" }

// plain is the deck that a text of nothing but so much RAM is.
func plain(size int) api.Deck {
	return api.Deck{Ram: size, Cpu: api.Cpu{Pc: ram, Mode: api.M, Mstatus: uxl}}
}

// worlds is so many worlds of nothing.
func worlds(n int) []api.World { return make([]api.World, n) }

// read is the deck of a text.
func read(t *testing.T, text string) api.Deck {
	t.Helper()
	d, err := deck.Parse(text)
	if err != nil {
		t.Fatalf("%q: %v", text, err)
	}
	return d
}

// sourced is a deck whose program is these lines of source.
func sourced(t *testing.T, size int, lines ...string) api.Deck {
	t.Helper()
	d := plain(size)
	program := read(t, joined("anvil 1", "ram 65536", "source", strings.Join(lines, "\n"), "end"))
	d.Parts, d.Cpu.Pc = program.Parts, program.Cpu.Pc
	return d
}

// made is the board of a deck that must be valid.
func made(t *testing.T, d api.Deck) *board.Board {
	t.Helper()
	b, e := board.New(d)
	if b == nil || e != api.OK {
		t.Fatalf("P15.1: New answers error %d of %+v", e, d)
	}
	return b
}

// again is the board of a whole that must be one.
func again(t *testing.T, w api.Whole) *board.Board {
	t.Helper()
	b, e := board.From(w)
	if b == nil || e != api.OK {
		t.Fatalf("P15.2: From answers error %d of %+v", e, w)
	}
	return b
}

// played is the trace of a deck that must be valid.
func played(t *testing.T, d api.Deck) api.Trace {
	t.Helper()
	tr, e := board.Play(d)
	if e != api.OK {
		t.Fatalf("P15.5: Play answers error %d of %+v", e, d)
	}
	return tr
}

// ran is the trace's text of a deck's text.
func ran(t *testing.T, text string) string {
	t.Helper()
	told, err := board.Run(text)
	if told == "" || err != nil {
		t.Fatalf("P15.6: Run answers %q, %v of\n%s", told, err, text)
	}
	return told
}

// printed is a deck's text.
func printed(t *testing.T, d api.Deck) string {
	t.Helper()
	text, e := deck.Print(d)
	if e != api.OK {
		t.Fatalf("deck.Print answers error %d of %+v", e, d)
	}
	return text
}

// steps is the rows of some worlds.
func steps(b *board.Board, w []api.World) []api.Row {
	var rows []api.Row
	for _, one := range w {
		rows = append(rows, b.Step(one))
	}
	return rows
}

// sameDevices tells whether all of two states that is not RAM is the same.
func sameDevices(a, b api.Bus) bool {
	registers := func(s api.Bus) [4]uint8 { return [...]uint8{s.Ier, s.Lcr, s.Mcr, s.Scratch} }
	return a.Msip == b.Msip && a.Mtimecmp == b.Mtimecmp && a.Mtime == b.Mtime &&
		a.Ext == b.Ext && a.Soft == b.Soft && registers(a) == registers(b) && a.Overrun == b.Overrun &&
		bytes.Equal(a.Input, b.Input) && bytes.Equal(a.Output, b.Output) && a.Off == b.Off && a.Code == b.Code
}

func sameWhole(a, b api.Whole) bool {
	return a.Cpu == b.Cpu && bytes.Equal(a.Bus.Ram, b.Bus.Ram) && sameDevices(a.Bus, b.Bus)
}

// holds: a board must be just this whole.
func holds(t *testing.T, name string, b *board.Board, want api.Whole) {
	t.Helper()
	if w := b.Whole(); !sameWhole(w, want) {
		t.Errorf("%s: the whole is\n%+v, want\n%+v", name, w, want)
	}
}

func sameTrace(a, b api.Trace) bool {
	return slices.Equal(a.Rows, b.Rows) && a.Cpu == b.Cpu && a.Off == b.Off && a.Code == b.Code && bytes.Equal(a.Output, b.Output)
}

// ended is the end of a trace as a whole has it.
func ended(rows []api.Row, w api.Whole) api.Trace {
	return api.Trace{Rows: rows, Cpu: w.Cpu, Off: w.Bus.Off, Code: w.Bus.Code, Output: w.Bus.Output}
}

// kinds is the rows' kinds.
func kinds(rows []api.Row) []int {
	var all []int
	for _, r := range rows {
		all = append(all, r.Kind)
	}
	return all
}

// bytesOf is the bytes of words of 32 bits.
func bytesOf(words ...uint32) []byte {
	var b []byte
	for _, w := range words {
		b = append(b, byte(w), byte(w>>8), byte(w>>16), byte(w>>24))
	}
	return b
}

func decimal(v uint64) string { return strconv.FormatUint(v, 10) }

func hexOf(v uint64) string { return "0x" + strconv.FormatUint(v, 16) }
