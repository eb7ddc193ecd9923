package save_test

import (
	"math/rand/v2"
	"slices"
	"strings"
	"testing"

	"anvil/api"
	"anvil/board"
	"anvil/bus"
	"anvil/deck"
	"anvil/decode"
	"anvil/encode"
	"anvil/hart"
)

// made is the board of a whole that can be.
func made(t *testing.T, w api.Whole) *board.Board {
	t.Helper()
	b, e := board.From(w)
	if e != api.OK {
		t.Fatalf("board.From answers error %d of\n%+v", e, w)
	}
	return b
}

// sourced is a deck whose program is these lines of source.
func sourced(t *testing.T, worlds []api.World, lines ...string) api.Deck {
	t.Helper()
	d, err := deck.Parse("anvil 1\nram 512\nsource\n" + strings.Join(lines, "\n") + "\nend\n")
	if err != nil {
		t.Fatalf("%v in\n%s", err, strings.Join(lines, "\n"))
	}
	d.Worlds = worlds
	return d
}

// program is a real one: its source, its worlds, and how its play ends.
type program struct {
	name   string
	worlds []api.World
	off    int
	code   int
	output string
	source []string
}

// finish is the lines that turn the power off: a0 is the code.
func finish() []string {
	return []string{"leave: lui t0, 0x100", "slli a0, a0, 16", "li t1, 0x3333", "or a0, a0, t1", "sw a0, 0(t0)", "1: j 1b"}
}

// programs is such as keep something in every part of a whole from step to step: a timer that is waited for, lines from outside, a console whose input is lost, a reservation, entries under which U runs, counters that stand.
func programs() []program {
	none := make([]api.World, 12)
	ticks := slices.Repeat([]api.World{{Tick: true}}, 60)
	return []program{
		{"a timer", ticks, api.Failed, 2, "", append([]string{
			"_start: la t0, handler", "csrw mtvec, t0", "li s0, 0x2004000", "li t1, 20", "sd t1, 0(s0)", "li t1, 0x80", "csrw mie, t1", "csrsi mstatus, 8",
			"1: wfi", "li t2, 2", "bne s2, t2, 1b", "mv a0, s2", "j leave",
			".align 2", "handler: addi s2, s2, 1", "ld t3, 0(s0)", "addi t3, t3, 12", "sd t3, 0(s0)", "mret",
		}, finish()...)},
		{"a console", slices.Concat(none, []api.World{{Input: []byte("abc")}}, none, none, none, []api.World{{Input: make([]byte, 60)}, {Input: make([]byte, 10)}}, none), api.Failed, 99, "abc", append([]string{
			"_start: la t0, handler", "csrw mtvec, t0", "lui s0, 0x10000", "li t1, 1", "sb t1, 1(s0)", "li t1, 1 << 11", "csrw mie, t1", "csrsi mstatus, 8", "li t1, 7", "sb t1, 7(s0)",
			"1: wfi", "j 1b",
			".align 2", "handler: lbu a0, 5(s0)", "andi t2, a0, 2", "bnez t2, leave",
			"2: lbu a1, 0(s0)", "sb a1, 0(s0)", "lbu t3, 2(s0)", "li t4, 4", "beq t3, t4, 2b", "mret",
		}, finish()...)},
		{"lines", slices.Concat(none, []api.World{{Soft: true}}, none, []api.World{{Ext: true}}, none, none), api.Failed, 0x3b, "", append([]string{
			"_start: la t0, handler", "addi t0, t0, 1", "csrw mtvec, t0", "li t1, 0x808", "csrw mie, t1", "csrsi mstatus, 8", "1: wfi", "j 1b",
			".align 8", "handler: j handler", ".org handler + 12", "slli a0, a0, 4", "addi a0, a0, 3", "mret", ".org handler + 44", "slli a0, a0, 4", "addi a0, a0, 11",
		}, finish()...)},
		{"a reservation", make([]api.World, 40), api.Failed, 0x15, "", append([]string{
			"_start: la s0, place", "li a3, 5", "lr.w a1, (s0)", "nop", "nop", "sc.w a2, a3, (s0)", "bnez a2, wrong", "sc.w a2, a3, (s0)", "beqz a2, wrong",
			"lr.d a1, (s0)", "nop", "sc.d a4, a1, (s0)", "bnez a4, wrong", "lw a0, 0(s0)", "addi a0, a0, 16", "j leave", "wrong: li a0, 1",
		}, append(finish(), ".align 3", "place: .dword 0")...)},
		{"U under entries", make([]api.World, 60), api.Failed, 0x57, "", append([]string{
			"_start: la t0, handler", "csrw mtvec, t0", "la t1, secret", "srli t1, t1, 2", "csrw pmpaddr0, t1", "li t1, -1", "csrw pmpaddr1, t1", "li t1, 0x1d90", "csrw pmpcfg0, t1",
			"li t1, 5", "csrw mcountinhibit, t1", "la t1, user", "csrw mepc, t1", "mret",
			"user: la a1, secret", "lw a2, 0(a1)", "sw a2, 4(a1)", "ecall",
			"handler: csrr s0, mcause", "li s1, 8", "beq s0, s1, done", "slli a0, a0, 4", "add a0, a0, s0", "csrr s2, mepc", "addi s2, s2, 4", "csrw mepc, s2", "mret", "done:",
		}, append(finish(), ".align 3", "secret: .word 1", ".word 2")...)},
	}
}

// middles is the wholes ahead of each step of a deck's play and behind the last one, and the rows.
func middles(t *testing.T, d api.Deck) ([]api.Whole, []api.Row) {
	t.Helper()
	b, e := board.New(d)
	if e != api.OK {
		t.Fatalf("board.New answers error %d of\n%+v", e, d)
	}
	wholes := []api.Whole{b.Whole()}
	var rows []api.Row
	for _, w := range d.Worlds {
		rows = append(rows, b.Step(w))
		wholes = append(wholes, b.Whole())
	}
	return wholes, rows
}

// goesOn cuts a deck's play at every step, and holds what the loaded whole does from there on against the play, row by row and whole by whole.
func goesOn(t *testing.T, name string, d api.Deck) {
	t.Helper()
	wholes, rows := middles(t, d)
	for n, w := range wholes {
		b := made(t, loaded(t, saved(t, w)))
		for i := n; i < len(rows); i++ {
			row := b.Step(d.Worlds[i])
			row.Step += n
			if row != rows[i] {
				t.Fatalf("P16.6: %s, saved behind step %d: the row is\n%+v, want\n%+v", name, n, row, rows[i])
			}
			if got := b.Whole(); !same(got, wholes[i+1]) {
				t.Fatalf("P16.6: %s, saved behind step %d: behind step %d the whole is\n%+v, want\n%+v", name, n, i+1, got, wholes[i+1])
			}
		}
	}
}

func TestP16_6Programs(t *testing.T) {
	for _, p := range programs() {
		d := sourced(t, p.worlds, p.source...)
		tr, e := board.Play(d)
		if e != api.OK || tr.Off != p.off || tr.Code != p.code || string(tr.Output) != p.output {
			t.Errorf("%s: error %d, off %d, code %#x, output %q", p.name, e, tr.Off, tr.Code, tr.Output)
		}
		goesOn(t, p.name, d)
	}
}

// anyCode is so many bytes of instructions of any operation, whose registers are mostly x8 to x15.
func anyCode(r *rand.Rand, size int) []byte {
	var b []byte
	for len(b) < size {
		op := 1 + r.IntN(api.Ops-1)
		raw, _ := encode.Encode(api.Instr{Op: op})
		for range 8 {
			if loose := raw | r.Uint32()&0x00738380 | 0x40400; decode.Decode(loose).Op == op {
				raw = loose
				break
			}
		}
		b = append(b, byte(raw), byte(raw>>8), byte(raw>>16), byte(raw>>24))
	}
	return b[:size]
}

// anyMachine is a whole that can run for some steps: its Pc and its handler are in RAM, its registers are mostly addresses of something.
func anyMachine(r *rand.Rand) api.Whole {
	w := anyWhole(r)
	c, b := &w.Cpu, &w.Bus
	b.Ram, b.Off, b.Code = anyCode(r, 320), api.Running, 0
	copy(b.Ram[256:], slices.Repeat([]byte{0x73, 0, 0x20, 0x30}, 16)) // mret
	if r.IntN(20) == 0 {
		b.Off = api.Passed
	}
	c.Pc, c.Mtvec, c.Mepc = ram+uint64(4*r.IntN(40)), ram+256+uint64(r.IntN(2)), ram+uint64(4*r.IntN(60))
	c.Waiting = r.IntN(10) == 0
	for i := 1; i < 32; i++ {
		c.X[i] = one(r, ram+uint64(8*r.IntN(40)), ram+uint64(8*r.IntN(40)), ram+uint64(r.IntN(320)), 0x10000000+uint64(r.IntN(8)), 0x2000000, 0x2004000, 0x200bff8, anyWord(r))
	}
	if r.IntN(2) == 0 {
		c.Mie = 0
	}
	if r.IntN(4) > 0 {
		c.Pmp = api.Pmp{}
		c.Pmp.Cfg[5], c.Pmp.Addr[5] = 0x1f, ones
	}
	if r.IntN(2) == 0 {
		c.Res = api.Res{Valid: true, Addr: c.X[8] &^ 7, Size: 4 << r.IntN(2)}
	}
	return w
}

func anyWorld(r *rand.Rand) api.World {
	w := api.World{Tick: r.IntN(2) == 0, Ext: r.IntN(8) == 0, Soft: r.IntN(8) == 0}
	if r.IntN(4) == 0 {
		w.Input = anyBytes(r, one(r, 1, 2, 30, 64))
	}
	return w
}

// TestP16_6Any: machines of any kind, by the hart and the bus themselves.
func TestP16_6Any(t *testing.T) {
	r := random(10)
	var seen [6]int
	for range 3000 {
		w := anyMachine(r)
		x := loaded(t, saved(t, w))
		first, e := bus.From(w.Bus)
		second, f := bus.From(x.Bus)
		if e != api.OK || f != api.OK {
			t.Fatalf("bus.From answers errors %d and %d", e, f)
		}
		for range 25 {
			world := anyWorld(r)
			var mine, its api.Row
			w.Cpu, mine = hart.Step(w.Cpu, first, world)
			x.Cpu, its = hart.Step(x.Cpu, second, world)
			if mine != its {
				t.Fatalf("P16.6: the rows are\n%+v\n%+v", mine, its)
			}
			if seen[mine.Kind]++; !same(api.Whole{Cpu: w.Cpu, Bus: first.State()}, api.Whole{Cpu: x.Cpu, Bus: second.State()}) {
				t.Fatalf("P16.6: behind %+v the wholes are two", mine)
			}
		}
	}
	for kind := api.RowRetire; kind <= api.RowOff; kind++ {
		if seen[kind] < 500 {
			t.Errorf("%d rows of kind %d: too few to tell", seen[kind], kind)
		}
	}
}

// TestP7Snapshots: a play that goes through a snapshot's bytes behind every step is the play.
func TestP7Snapshots(t *testing.T) {
	r := random(11)
	for range 400 {
		whole := anyMachine(r)
		through, b := whole, made(t, whole)
		for i := range 40 {
			world := anyWorld(r)
			want := b.Step(world)
			own := made(t, loaded(t, saved(t, through)))
			row := own.Step(world)
			if row.Step = i + 1; row != want {
				t.Fatalf("P7: the row is\n%+v, want\n%+v", row, want)
			}
			if through = own.Whole(); !same(through, b.Whole()) {
				t.Fatalf("P7: behind %+v the whole is\n%+v, want\n%+v", row, through, b.Whole())
			}
		}
	}
}
