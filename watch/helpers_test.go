package watch_test

import (
	"bytes"
	"math"
	"strings"
	"testing"

	"anvil/api"
	"anvil/board"
	"anvil/deck"
	"anvil/watch"
)

// The numbers as the document writes them.
const (
	finisher = 0x100000
	msip     = 0x2000000
	mtimecmp = 0x2004000
	mtime    = 0x200bff8
	console  = 0x10000000
	ram      = 0x80000000
	ones     = math.MaxUint64
	uxl      = 0x200000000
	every    = 1<<54 - 1 // the Addr of an entry over every address
	mret     = 0x30200073
)

// look is what Step is shown: the whole ahead of a step, the whole behind it, its world and its row.
type look struct {
	b, a api.Whole
	w    api.World
	r    api.Row
}

func (l look) told() int { return watch.Step(l.b, l.a, l.w, l.r) }

// copied is the same look in new memory.
func (l look) copied() look {
	l.b, l.a = copiedWhole(l.b), copiedWhole(l.a)
	l.w.Input = bytes.Clone(l.w.Input)
	return l
}

func copiedWhole(w api.Whole) api.Whole {
	w.Bus.Ram, w.Bus.Input, w.Bus.Output = bytes.Clone(w.Bus.Ram), bytes.Clone(w.Bus.Input), bytes.Clone(w.Bus.Output)
	return w
}

// tells: this look must break this rule at the lowest.
func (l look) tells(t *testing.T, name string, want int) {
	t.Helper()
	if got := l.told(); got != want {
		t.Errorf("P18.1: %s: rule %d, want %d; broken are %v", name, got, want, broken(l))
	}
}

// still is a whole that can be: 64 bytes of RAM, these instructions of four bytes at its beginning, all registers and CSRs full, an open entry of every right over every address, and one that is locked and empty with the entry ahead of it.
func still(mode int, code ...uint32) api.Whole {
	w := api.Whole{Cpu: api.Cpu{Pc: ram, Mode: mode, Mstatus: uxl | 8}}
	c, s := &w.Cpu, &w.Bus
	for i := range c.X[1:] {
		c.X[i+1] = uint64(i+1) * 0x0101010101010101
	}
	c.X[10], c.X[11], c.X[12], c.X[13], c.X[14], c.X[15] = ram+32, console, mtime, mtimecmp, msip, finisher
	c.Mtvec, c.Mie, c.Mcounteren, c.Menvcfg = ram+1, 0x888, 7, 1
	c.Mscratch, c.Mepc, c.Mcause, c.Mtval, c.Mcycle, c.Minstret = 0x11, 0x22, 0x33, 0x44, 0x55, 0x66
	c.Pmp.Cfg[15], c.Pmp.Addr[15] = 0x1f, every
	c.Pmp.Cfg[3], c.Pmp.Addr[2], c.Pmp.Addr[3] = 0x8f, 77, 77
	c.Res = api.Res{Valid: true, Addr: ram + 8, Size: 8}
	s.Ram = bytes.Repeat([]byte{0xa5}, 64)
	for i, raw := range code {
		copy(s.Ram[4*i:], []byte{byte(raw), byte(raw >> 8), byte(raw >> 16), byte(raw >> 24)})
	}
	s.Mtimecmp, s.Mtime = 1000, 7
	s.Ier, s.Lcr, s.Mcr, s.Scratch = 2, 3, 4, 5
	s.Input, s.Output = []byte("in"), []byte("out")
	return w
}

// stepped is the look of a board's step.
func stepped(t *testing.T, b api.Whole, w api.World) look {
	t.Helper()
	own, e := board.From(b)
	if e != api.OK {
		t.Fatalf("board.From answers error %d of %+v", e, b)
	}
	r := own.Step(w)
	return look{b, own.Whole(), w, r}
}

// The instructions of the looks below; a0 is RAM's place, a1 to a5 are the devices'.
const (
	addi     = 0x00730293 // addi t0, t1, 7
	nop      = 0x00000013
	csrrw    = 0x340312f3 // csrrw t0, mscratch, t1
	csrwSelf = 0xb0031073 // csrw mcycle, t1
	sd       = 0x00653023 // sd t1, 0(a0)
	ld       = 0x00053283 // ld t0, 0(a0)
	amoadd   = 0x006522af // amoadd.w t0, t1, (a0)
	lr       = 0x100532af // lr.d t0, (a0)
	sb       = 0x00658023 // sb t1, 0(a1)
	sdTime   = 0x00663023 // sd t1, 0(a2)
	sdCmp    = 0x0066b023 // sd t1, 0(a3)
	swMsip   = 0x00672023 // sw t1, 0(a4)
	ecall    = 0x00000073
	wfi      = 0x10500073
)

// looks is a step of each kind in both modes, all of them right.
func looks(t *testing.T) map[string]look {
	t.Helper()
	all := map[string]look{}
	for mode, letter := range map[int]string{api.U: "U", api.M: "M"} {
		for name, code := range map[string]uint32{
			"addi": addi, "nop": nop, "sd": sd, "ld": ld, "amoadd": amoadd, "lr": lr, "sb": sb,
			"sdTime": sdTime, "sdCmp": sdCmp, "swMsip": swMsip, "ecall": ecall, "wfi": wfi, "c.nop": 1, "illegal": 0,
		} {
			all[name+letter] = stepped(t, still(mode, code), api.World{})
			all[name+letter+" tick"] = stepped(t, still(mode, code), api.World{Tick: true, Input: []byte("ab")})
		}
		all["interrupt"+letter] = stepped(t, still(mode, addi), api.World{Soft: true})
		all["external"+letter] = stepped(t, still(mode, addi), api.World{Ext: true, Tick: true})
		waiting := still(mode, addi)
		waiting.Cpu.Waiting = true
		all["wait"+letter] = stepped(t, waiting, api.World{})
		all["wait"+letter+" tick"] = stepped(t, waiting, api.World{Tick: true, Input: []byte("c")})
		off := still(mode, addi)
		off.Bus.Off, off.Bus.Code, off.Bus.Ext = api.Failed, 9, true
		all["off"+letter] = stepped(t, off, api.World{Tick: true, Soft: true, Input: []byte("d")})
	}
	for name, code := range map[string]uint32{"csrrw": csrrw, "csrwSelf": csrwSelf, "mret": mret} {
		all[name] = stepped(t, still(api.M, code), api.World{})
	}
	lent := still(api.M, sd)
	lent.Cpu.Mstatus |= 1 << 17
	all["mprv"] = stepped(t, lent, api.World{})
	inhibited := still(api.U, addi)
	inhibited.Cpu.Mcountinhibit = 5
	all["inhibited"] = stepped(t, inhibited, api.World{})
	last := still(api.U, addi)
	last.Cpu.Mcycle, last.Cpu.Minstret, last.Bus.Mtime, last.Bus.Mtimecmp = ones, ones, ones, ones
	last.Cpu.Mie = 0
	all["wrapping"] = stepped(t, last, api.World{Tick: true})
	return all
}

// sourced is a deck whose program is these lines of source.
func sourced(t *testing.T, size int, lines ...string) api.Deck {
	t.Helper()
	text := "anvil 1\nram 65536\nsource\n" + strings.Join(lines, "\n") + "\nend\n"
	d, err := deck.Parse(text)
	if err != nil {
		t.Fatalf("%v:\n%s", err, text)
	}
	d.Ram = size
	return d
}

// made is the board of a deck that must be valid.
func made(t *testing.T, d api.Deck) *board.Board {
	t.Helper()
	b, e := board.New(d)
	if e != api.OK {
		t.Fatalf("board.New answers error %d of %+v", e, d)
	}
	return b
}

// played is the trace of a deck that must be valid.
func played(t *testing.T, d api.Deck) api.Trace {
	t.Helper()
	tr, e := board.Play(d)
	if e != api.OK {
		t.Fatalf("board.Play answers error %d of %+v", e, d)
	}
	return tr
}

// around plays a deck and calls see with the look of each step.
func around(t *testing.T, d api.Deck, see func(look)) {
	t.Helper()
	own := made(t, d)
	was := own.Whole()
	for _, w := range d.Worlds {
		r := own.Step(w)
		is := own.Whole()
		see(look{was, is, w, r})
		was = is
	}
}
