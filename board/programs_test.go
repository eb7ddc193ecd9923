package board_test

import (
	"encoding/hex"
	"slices"
	"strings"
	"testing"

	"anvil/api"
	"anvil/asm"
	"anvil/image"
	"anvil/speak"
)

// program is a real one: its source, its worlds, and how its play ends.
type program struct {
	name   string
	source []string
	worlds []api.World
	off    int
	code   int
	output string
}

// ticks is so many worlds that tick.
func ticks(n int) []api.World { return slices.Repeat([]api.World{{Tick: true}}, n) }

// typed is worlds that bring a text, a byte at every nth step.
func typed(text string, n int) []api.World {
	var all []api.World
	for i := range text {
		all = append(all, api.World{Input: []byte(text[i : i+1])})
		all = append(all, worlds(n-1)...)
	}
	return all
}

// finish is the lines that turn the power off: a0 is the code.
func finish() []string {
	return []string{"lui t0, 0x100", "slli a0, a0, 16", "lui t1, 3", "addi t1, t1, 0x333", "or a0, a0, t1", "sw a0, 0(t0)", "1: j 1b"}
}

// programs is a timer with its handler, services for U, an echo by interrupts, a counter by LR and SC under interrupts, and a recursion in short forms.
func programs() []program {
	return []program{
		{"a timer", slices.Concat([]string{
			"_start: la t0, handler", "csrw mtvec, t0", "li s0, 0x2004000", "li s1, 0x200bff8",
			"ld t1, 0(s1)", "addi t1, t1, 10", "sd t1, 0(s0)", "li t1, 0x80", "csrw mie, t1", "csrsi mstatus, 8",
			"wait: wfi", "li t2, 3", "bne s2, t2, wait", "mv a0, s2",
		}, finish(), []string{
			".align 2", "handler: addi s2, s2, 1", "ld t3, 0(s1)", "addi t3, t3, 10", "sd t3, 0(s0)", "mret",
		}), ticks(120), api.Failed, 3, ""},
		{"services", slices.Concat([]string{
			"_start: la t0, handler", "csrw mtvec, t0", "li t1, -1", "csrw pmpaddr1, t1", "la t1, secret", "srli t1, t1, 2", "csrw pmpaddr0, t1",
			"li t1, 0x1f10", "csrw pmpcfg0, t1", "la t1, user", "csrw mepc, t1", "mret",
			"user: li a7, 1", "li a0, 'h'", "ecall", "li a0, 'i'", "ecall", "csrr a0, mstatus", "la a1, secret", "lw a0, 0(a1)", "sw a0, 0(a1)", "li a7, 2", "li a0, 77", "ecall",
			"handler: csrr s0, mcause", "li s1, 8", "bne s0, s1, fault", "li s1, 2", "beq a7, s1, leave", "lui s2, 0x10000", "sb a0, 0(s2)", "j skip",
			"fault: lui s2, 0x10000", "addi s0, s0, '0'", "sb s0, 0(s2)", "skip: csrr s3, mepc", "addi s3, s3, 4", "csrw mepc, s3", "mret", "leave:",
		}, finish(), []string{".align 2", "secret: .word 0x5ec2e7"}), worlds(120), api.Failed, 77, "hi257"},
		{"an echo", slices.Concat([]string{
			"_start: la t0, handler", "csrw mtvec, t0", "lui s0, 0x10000", "li t1, 1", "sb t1, 1(s0)", "li t1, 1 << 11", "csrw mie, t1", "csrsi mstatus, 8",
			"1: wfi", "j 1b",
			".align 2", "handler: lbu a0, 0(s0)", "sb a0, 0(s0)", "li t2, '.'", "beq a0, t2, leave", "lbu t3, 5(s0)", "andi t3, t3, 1", "bnez t3, handler", "mret",
			"leave: li a0, 0",
		}, finish()), slices.Concat(worlds(15), typed("echo", 14), []api.World{{Input: []byte("two.")}}, worlds(60)), api.Failed, 0, "echotwo."},
		{"a counter", slices.Concat([]string{
			"_start: la t0, handler", "csrw mtvec, t0", "li t1, 8", "csrw mie, t1", "csrsi mstatus, 8", "la s0, count", "li s1, 5",
			"again: lr.w a1, (s0)", "addi a1, a1, 1", "sc.w a2, a1, (s0)", "add s3, s3, a2", "bnez a2, again", "addi s1, s1, -1", "bnez s1, again",
			"lw a0, 0(s0)", "slli s3, s3, 8", "or a0, a0, s3",
		}, finish(), []string{".align 2", "handler: mret", "count: .word 0"}),
			slices.Concat(worlds(10), []api.World{{Soft: true}}, worlds(7), []api.World{{Soft: true}}, worlds(70)), api.Failed, 0x205, ""},
		{"a recursion", slices.Concat([]string{
			".option rvc", "_start: la sp, top", "li a0, 5", "call factorial", "j leave",
			"factorial: addi sp, sp, -16", "sd ra, 8(sp)", "sd s0, 0(sp)", "mv s0, a0", "li a1, 2", "blt a0, a1, base", "addi a0, a0, -1", "call factorial", "mul a0, a0, s0", "j back",
			"base: li a0, 1", "back: ld ra, 8(sp)", "ld s0, 0(sp)", "addi sp, sp, 16", "ret", "leave:",
		}, finish(), []string{".bss", ".zero 96", "top: .zero 8"}), worlds(150), api.Failed, 120, ""},
	}
}

func (p program) deck(t *testing.T) api.Deck {
	t.Helper()
	d := sourced(t, 512, p.source...)
	d.Worlds = p.worlds
	return d
}

// TestP1Programs: real programs do what they are written for, step by step as the machine does.
func TestP1Programs(t *testing.T) {
	for _, p := range programs() {
		d := p.deck(t)
		tr := played(t, d)
		if tr.Off != p.off || tr.Code != p.code || string(tr.Output) != p.output {
			t.Errorf("%s: off %d, code %#x, output %q\n%s", p.name, tr.Off, tr.Code, tr.Output, ran(t, printed(t, d)))
		}
		follows(t, d)
	}
}

// hexed is bytes as data lines.
func hexed(b []byte) []string {
	var lines []string
	for piece := range slices.Chunk(b, 32) {
		lines = append(lines, "data "+hex.EncodeToString(piece))
	}
	return lines
}

// TestP8Source: a program loaded as source, as its ELF file, as bytes, or as the source of its disassembly runs alike.
func TestP8Source(t *testing.T) {
	for _, p := range programs() {
		src := strings.Join(p.source, "\n")
		im, err := asm.Assemble(src)
		if err != nil {
			t.Fatalf("%s: %v", p.name, err)
		}
		file, e := image.Write(im)
		if e != api.OK {
			t.Fatalf("%s: error %d", p.name, e)
		}
		var parts []string
		for _, s := range im.Segs {
			flags := map[int]string{5: "rx", 3: "rw"}[s.Flags]
			parts = append(parts, "part "+hexOf(s.Addr)+" "+decimal(s.Size)+" "+flags)
			parts = append(parts, hexed(s.Data)...)
		}
		listing := speak.List(im.Segs[0].Data, ram)
		turn := "steps " + decimal(uint64(len(p.worlds))) + " tick"
		text := func(lines ...string) string {
			return joined(slices.Concat([]string{"anvil 1", "ram 512"}, lines, []string{turn})...)
		}
		want := ran(t, text("source", src, "end"))
		for name, told := range map[string]string{
			"an ELF file":   ran(t, text(append([]string{"elf"}, hexed(file)...)...)),
			"bytes":         ran(t, text(append(parts, "pc "+hexOf(im.Entry))...)),
			"a disassembly": ran(t, text(slices.Concat([]string{"source"}, listing, []string{"end", "pc " + hexOf(im.Entry)}, parts[1+len(hexed(im.Segs[0].Data)):])...)),
		} {
			if told != want {
				t.Errorf("P8: %s as %s: the trace is\n%s, want\n%s", p.name, name, told, want)
			}
		}
	}
}
