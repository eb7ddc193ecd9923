package gdb_test

import (
	"bytes"
	"encoding/binary"
	"encoding/hex"
	"fmt"
	"math"
	"strings"
	"testing"

	"anvil/api"
	"anvil/board"
	"anvil/deck"
	"anvil/gdb"
)

// The numbers as the document writes them.
const (
	finisher  = 0x100000
	msip      = 0x2000000
	mtimecmp  = 0x2004000
	mtime     = 0x200bff8
	console   = 0x10000000
	ram       = 0x80000000
	maxRam    = 65536
	maxPacket = 1000
	maxStops  = 16
	maxRun    = 2000
	maxSteps  = 4000
	ones      = math.MaxUint64
	uxl       = 0x200000000
)

// bare is a deck of so much RAM, which begins in M at RAM's first byte.
func bare(size int) api.Deck {
	return api.Deck{Ram: size, Cpu: api.Cpu{Pc: ram, Mode: api.M}}
}

// little is the deck of the chapter's examples: c.addi a0, 1 twice, and a jump to itself.
func little() api.Deck {
	d := bare(16)
	d.Parts = []api.Seg{{Addr: ram, Size: 6, Data: []byte{0x05, 0x05, 0x05, 0x05, 0x01, 0xa0}}}
	return d
}

// sourced is a deck whose program is these lines of source.
func sourced(t *testing.T, size int, lines ...string) api.Deck {
	t.Helper()
	text := "anvil 1\nram 65536\nsource\n" + strings.Join(lines, "\n") + "\nend\n"
	program, err := deck.Parse(text)
	if err != nil {
		t.Fatalf("%v:\n%s", err, text)
	}
	d := bare(size)
	d.Parts, d.Cpu.Pc = program.Parts, program.Cpu.Pc
	return d
}

// made is the stub of a deck that must be valid.
func made(t *testing.T, d api.Deck) *gdb.Stub {
	t.Helper()
	s, e := gdb.New(d)
	if s == nil || e != api.OK {
		t.Fatalf("P17.3: New answers error %d of %+v", e, d)
	}
	return s
}

// boarded is the board of a deck that must be valid.
func boarded(t *testing.T, d api.Deck) *board.Board {
	t.Helper()
	b, e := board.New(d)
	if e != api.OK {
		t.Fatalf("board.New answers error %d of %+v", e, d)
	}
	return b
}

// framed is a body as a packet, with its sum.
func framed(body string) string {
	sum := 0
	for i := range len(body) {
		sum += int(body[i])
	}
	return fmt.Sprintf("$%s#%02x", body, sum%256)
}

// packet is a payload as a packet.
func packet(payload string) string {
	return framed(strings.NewReplacer("#", "}\x03", "$", "}\x04", "}", "}]", "*", "}\x0a").Replace(payload))
}

// fed: what is sent for these bytes must be this.
func fed(t *testing.T, s *gdb.Stub, in, want string) {
	t.Helper()
	if got := string(s.Feed([]byte(in))); got != want {
		t.Errorf("P17.4: for %.80q it sends %.200q, want %.200q", in, got, want)
	}
}

// ask: this payload must have this answer, of a stub that acknowledges.
func ask(t *testing.T, s *gdb.Stub, payload, want string) {
	t.Helper()
	if got := string(s.Feed([]byte(packet(payload)))); got != "+"+packet(want) {
		t.Errorf("17.3: %.80q is answered %.200q, want %.200q", payload, got, want)
	}
}

// word is a register's digits.
func word(v uint64) string {
	return hex.EncodeToString(binary.LittleEndian.AppendUint64(nil, v))
}

// same compares wholes; nil and an empty list are the same.
func same(a, b api.Whole) bool {
	registers := func(s api.Bus) [4]uint8 { return [...]uint8{s.Ier, s.Lcr, s.Mcr, s.Scratch} }
	s, t := a.Bus, b.Bus
	return a.Cpu == b.Cpu && bytes.Equal(s.Ram, t.Ram) && s.Msip == t.Msip && s.Mtimecmp == t.Mtimecmp && s.Mtime == t.Mtime &&
		s.Ext == t.Ext && s.Soft == t.Soft && registers(s) == registers(t) && s.Overrun == t.Overrun &&
		bytes.Equal(s.Input, t.Input) && bytes.Equal(s.Output, t.Output) && s.Off == t.Off && s.Code == t.Code
}

// holds: a stub must have this whole, and have made so many steps.
func holds(t *testing.T, what string, s *gdb.Stub, want api.Whole, steps int) {
	t.Helper()
	if got := s.Whole(); !same(got, want) {
		t.Errorf("%s: the whole is\n%+v, want\n%+v", what, got, want)
	}
	if s.Steps() != steps {
		t.Errorf("%s: %d steps, want %d", what, s.Steps(), steps)
	}
}

// stays: what is done must change neither the whole nor the steps.
func stays(t *testing.T, what string, s *gdb.Stub, do func()) {
	t.Helper()
	was, steps := s.Whole(), s.Steps()
	do()
	holds(t, what, s, was, steps)
}

// stands: a stub must have made so many steps, and its hart must be at this pc.
func stands(t *testing.T, s *gdb.Stub, steps int, pc uint64) {
	t.Helper()
	if at := s.Whole().Cpu.Pc; s.Steps() != steps || at != pc {
		t.Errorf("17.4: %d steps, pc %#x, want %d, %#x", s.Steps(), at, steps, pc)
	}
}

// takes tells whether Unpack takes a packet.
func takes(b string) bool {
	_, e := gdb.Unpack([]byte(b))
	return e == api.OK
}
