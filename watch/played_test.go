package watch_test

import (
	"fmt"
	"slices"
	"testing"

	"anvil/api"
	"anvil/board"
	"anvil/csr"
	"anvil/watch"
)

// tally counts what kinds of steps were seen, so that a test can tell that it has seen enough of each.
type tally map[string]int

func (n tally) see(l look) {
	c := csr.Proper(l.b.Cpu)
	mode := map[int]string{api.U: "U", api.M: "M"}[c.Mode]
	n[fmt.Sprintf("kind %d in %s", l.r.Kind, mode)]++
	if l.r.Mem != 0 {
		n[fmt.Sprintf("Mem %d in %s", l.r.Mem, mode)]++
	}
	if l.r.Mem&api.W != 0 && l.r.Addr < ram {
		n[fmt.Sprintf("a store at %#x", l.r.Addr&^7)]++
	}
	if l.r.Mem != 0 && c.Mode == api.M && c.Mstatus&(1<<17|0x1800) == 1<<17 {
		n["an access as U"]++
	}
	if len(l.a.Bus.Output) > len(l.b.Bus.Output) {
		n["a byte is sent"]++
	}
	if l.r.Kind == api.RowInterrupt && c.Mtvec&1 == 1 {
		n["a vector"]++
	}
	if l.a.Cpu.Pmp != c.Pmp {
		n["an entry is written"]++
	}
	if l.r.NextMode < l.r.Mode {
		n["to U"]++
	}
	if l.a.Bus.Off != l.b.Bus.Off {
		n["off"]++
	}
}

// enough: of each of these so many must have been seen.
func (n tally) enough(t *testing.T, least int, names ...string) {
	t.Helper()
	for _, name := range names {
		if n[name] < least {
			t.Errorf("%s: %d, too few to tell", name, n[name])
		}
	}
}

// everything is the names of all that a tally counts.
func everything() []string {
	names := []string{"an access as U", "a byte is sent", "a vector", "an entry is written", "to U", "off"}
	for _, mode := range []string{"U", "M"} {
		for kind := 1; kind <= 5; kind++ {
			names = append(names, fmt.Sprintf("kind %d in %s", kind, mode))
		}
		for mem := 1; mem <= 3; mem++ {
			names = append(names, fmt.Sprintf("Mem %d in %s", mem, mode))
		}
	}
	for _, at := range []int{finisher, msip, mtimecmp, mtime, console} {
		names = append(names, fmt.Sprintf("a store at %#x", at))
	}
	return names
}

// TestP18_2Decks: of every step of a play, of decks of any kind, Step answers 0.
func TestP18_2Decks(t *testing.T) {
	seen := tally{}
	for seed := range uint64(1500) {
		d := anyDeck(t, random(seed), 60)
		around(t, d, func(l look) {
			seen.see(l)
			if rule := l.told(); rule != 0 {
				t.Fatalf("P18.2: deck %d: rule %d of\n%+v", seed, rule, l)
			}
		})
	}
	seen.enough(t, 30, everything()...)
}

// TestP18_2Wholes: of every step that begins with a whole of any kind, whose Cpu may be improper, Step answers 0.
func TestP18_2Wholes(t *testing.T) {
	r := random(2)
	seen := tally{}
	for range 6000 {
		l := stepped(t, anyWhole(t, r), anyWorlds(r, 1)[0])
		seen.see(l)
		if rule := l.told(); rule != 0 {
			t.Fatalf("P18.2: rule %d of\n%+v", rule, l)
		}
	}
	for kind := 1; kind <= 5; kind++ {
		seen.enough(t, 30, fmt.Sprintf("kind %d in U", kind), fmt.Sprintf("kind %d in M", kind))
	}
}

// TestP18_2Full: a console that is full sends nothing, and keeps the rule.
func TestP18_2Full(t *testing.T) {
	for _, length := range []int{4095, 4096} {
		w := still(api.U, sb)
		w.Bus.Output = make([]byte, length)
		l := stepped(t, w, api.World{})
		l.tells(t, "a full console", 0)
		if l.r.Mem != api.W || len(l.a.Bus.Output) != 4096 {
			t.Errorf("behind %+v %d bytes were sent", l.r, len(l.a.Bus.Output))
		}
	}
}

// TestP18_2Much: the greatest RAM.
func TestP18_2Much(t *testing.T) {
	d := sourced(t, api.MaxRam, "li a0, 0x8000fff8", "1: sd a0, 0(a0)", "addi a0, a0, -8", "j 1b")
	d.Worlds = make([]api.World, 90)
	around(t, d, func(l look) {
		l.tells(t, "much RAM", 0)
		if l.r.Mem == api.W {
			l.a.Bus.Ram[l.r.Addr-ram-1]++
			l.tells(t, "much RAM", 6)
			l.a.Bus.Ram[l.r.Addr-ram-1]--
		}
	})
}

// service is a real program: U prints by calls and is stopped by entries, a timer interrupts it, and M turns the power off.
func service() []string {
	return []string{
		"_start: la t0, handler", "csrw mtvec, t0", "li t1, -1", "csrw pmpaddr1, t1", "la t1, secret", "srli t1, t1, 2", "csrw pmpaddr0, t1",
		"li t1, 0x1f90", "csrw pmpcfg0, t1", "li s4, 0x2004000", "li t1, 80", "sd t1, 0(s4)", "li t1, 0x80", "csrw mie, t1", "la t1, user", "csrw mepc, t1", "mret",
		"user: li a7, 1", "li a0, 'h'", "ecall", "li a0, 'i'", "ecall", "la a1, secret", "lw a0, 0(a1)", "sw a0, 0(a1)", "lr.w a2, (sp)", "sc.w a3, a2, (sp)", "1: wfi", "beqz s5, 1b", "li a7, 2", "ecall",
		"handler: csrr s0, mcause", "bltz s0, timer", "li s1, 8", "bne s0, s1, skip", "li s1, 2", "beq a7, s1, leave", "lui s2, 0x10000", "sb a0, 0(s2)",
		"skip: csrr s3, mepc", "addi s3, s3, 4", "csrw mepc, s3", "mret", "timer: li s5, 1", "csrw mie, zero", "mret",
		"leave: lui t0, 0x100", "li t1, 0x5555", "sw t1, 0(t0)", "2: j 2b", ".align 3", "secret: .dword 5",
	}
}

// TestP18_2Program: a program that does what it is written for keeps all rules, and so does its trace.
func TestP18_2Program(t *testing.T) {
	d := sourced(t, 512, service()...)
	d.Cpu.X[2] = ram + 256 // sp
	d.Worlds = slices.Repeat([]api.World{{Tick: true}}, 140)
	kinds := map[int]int{}
	around(t, d, func(l look) {
		l.tells(t, fmt.Sprintf("step %d", l.r.Step), 0)
		kinds[l.r.Kind]++
	})
	tr := played(t, d)
	if tr.Off != api.Passed || string(tr.Output) != "hi" || len(kinds) != 5 {
		t.Errorf("off %d, output %q, rows %v", tr.Off, tr.Output, kinds)
	}
	if rule, at := watch.Trace(tr); rule != 0 || at != 0 {
		t.Errorf("P18.6: rule %d at %d", rule, at)
	}
}

// TestP18_6Decks: of every trace that Play answers Trace is 0, 0.
func TestP18_6Decks(t *testing.T) {
	rows, off := 0, 0
	for seed := range uint64(2500) {
		r := random(10000 + seed)
		tr := played(t, anyDeck(t, r, one(r, 0, 1, 2, 40, 80)))
		if rule, at := watch.Trace(tr); rule != 0 || at != 0 {
			t.Fatalf("P18.6: deck %d: rule %d at %d of\n%+v", seed, rule, at, tr)
		}
		rows += len(tr.Rows)
		off += min(tr.Off, 1)
	}
	if rows < 40000 || off < 40 {
		t.Errorf("%d rows, %d ends with the power off: too few to tell", rows, off)
	}
}

// TestP18_6Longest: the longest play.
func TestP18_6Longest(t *testing.T) {
	d := sourced(t, 64, "1: j 1b")
	d.Worlds = make([]api.World, api.MaxSteps)
	tr, e := board.Play(d)
	if e != api.OK || len(tr.Rows) != 4000 {
		t.Fatalf("error %d, %d rows", e, len(tr.Rows))
	}
	if rule, at := watch.Trace(tr); rule != 0 || at != 0 {
		t.Errorf("P18.6: rule %d at %d", rule, at)
	}
	tr.Rows[3999].Len = 0
	if rule, at := watch.Trace(tr); rule != 3 || at != 3999 {
		t.Errorf("P18.5: rule %d at %d, want 3 at 3999", rule, at)
	}
}
