package deck_test

import (
	"slices"
	"strings"
	"testing"

	"anvil/api"
	"anvil/asm"
)

// sample is the file of a program with two parts, the second one longer than its bytes.
func sample(t *testing.T) ([]byte, []api.Seg) {
	parts := []api.Seg{{Addr: ram + 8, Size: 4, Flags: 5, Data: []byte{0x13, 0, 0, 0}}, {Addr: ram + 32, Size: 32, Flags: 3, Data: []byte{1, 2, 3}}}
	return file(t, ram+10, parts...), parts
}

// TestP14_1Elf: an elf adds its parts and sets Pc; how its lines are cut counts for nothing.
func TestP14_1Elf(t *testing.T) {
	b, parts := sample(t)
	loaded := func(d *api.Deck) { d.Parts, d.Cpu.Pc = parts, ram+10 }
	for _, each := range []int{1, 7, 32, 497} {
		says(t, loaded, append([]string{"elf"}, dataLines(b, each)...)...)
		says(t, loaded, append([]string{"pc 4", " \telf\t"}, dataLines(b, each)...)...)
	}
	lines := asElf(b)
	says(t, func(d *api.Deck) { loaded(d); d.Cpu.Pc = 4 }, append(slices.Clone(lines), "pc 4")...)
	says(t, func(d *api.Deck) { loaded(d); d.Worlds = make([]api.World, 1) }, append(slices.Clone(lines), "step")...)
	says(t, func(d *api.Deck) { d.Parts, d.Cpu.Pc = append(slices.Clone(parts), parts...), ram+10 }, append(slices.Clone(lines), lines...)...)
	says(t, func(d *api.Deck) { d.Cpu.Pc = 0x123456 }, asElf(file(t, 0x123456))...)
	says(t, func(d *api.Deck) { d.Cpu.Pc = 0 }, asElf(file(t, 0))...)
}

// TestP14_1ElfEnds: an elf goes on over comment lines, and ends ahead of another line or with the text.
func TestP14_1ElfEnds(t *testing.T) {
	b, parts := sample(t)
	want := plain(64)
	want.Parts, want.Cpu.Pc = parts, ram+10
	lines := dataLines(b, 16)
	var open []string
	for i, l := range lines {
		open = append(open, []string{"# x", "", " \t", "\t# data 00"}[i%4], l)
	}
	reads(t, behindHead(append([]string{"elf"}, open...)...), want)
	reads(t, strings.TrimSuffix(behindHead(append([]string{"elf"}, lines...)...), "\n"), want)
	reads(t, behindHead(append([]string{"elf"}, lines...)...)+"# the end", want)
	at := want
	at.Cpu.Pc = 4
	reads(t, behindHead(append(append([]string{"elf", "#"}, open...), "# x", "pc 4")...), at)
	missing := lines[:len(lines)-1]
	refusedAt(t, behindHead(append([]string{"elf"}, missing...)...), 3, 64+8, api.ErrEnd)
	refusedAt(t, behindHead(append(append([]string{"pc 0", "elf"}, missing...), "#", "pc 4", lines[len(lines)-1])...), 4, 64+8, api.ErrEnd)
}

// TestP14_1ElfFaults: an elf's own fault is told at its line with its place in the file, ahead of all that is said of the line behind it.
func TestP14_1ElfFaults(t *testing.T) {
	b, _ := sample(t)
	spoilt := func(at int, value byte) []string {
		own := slices.Clone(b)
		own[at] = value
		return asElf(own)
	}
	refusedAt(t, behindHead("elf"), 3, 0, api.ErrEnd)
	refusedAt(t, behindHead("# x", "", "elf", "#", ""), 5, 0, api.ErrEnd)
	refusedAt(t, behindHead("elf", "data 7f45"), 3, 2, api.ErrEnd)
	refusedAt(t, behindHead("elf", "data 7f46"), 3, 1, api.ErrMagic)
	refusedAt(t, behindHead(spoilt(4, 1)...), 3, 4, api.ErrMagic)
	refusedAt(t, behindHead(spoilt(24, 1)...), 3, 24, api.ErrHeader)
	refusedAt(t, behindHead(append([]string{"mode u"}, spoilt(56, 17)...)...), 4, 56, api.ErrMany)
	refusedAt(t, behindHead(spoilt(64+4, 8)...), 3, 64+4, api.ErrSegment)
	refusedAt(t, behindHead(spoilt(64+56+24, 8)...), 3, 64+56+24, api.ErrOverlap)
	long := strings.Repeat("x", maxLine+1)
	for _, next := range []string{"pc 0", "bla", "pc x", "reg a9 0", "pmp 16 0 0", "steps 4001", "steps 0", "part 0 0 r", "step", "source", "elf", "end", `"data" 00`, `"`, "datax 00", "data# 00", "data\r", "Data 00", "dat", long, "x" + long, "datax " + long, "\"" + long} {
		refusedAt(t, behindHead("elf", "data 7f46", next), 3, 1, api.ErrMagic)
		refusedAt(t, behindHead("elf", "data 7f46", "#", "", next), 3, 1, api.ErrMagic)
		refusedAt(t, behindHead("elf", next), 3, 0, api.ErrEnd)
	}
	for _, next := range []string{"data", "data ", `data"00"`, `data"`, "\tdata\t", " data 0", "data x"} {
		refused(t, behindHead("elf", "data 7f46", next), 5, api.ErrLine)
		refused(t, behindHead("elf", "# x", next), 5, api.ErrLine)
	}
	for _, next := range []string{"#" + long, "   #" + long, strings.Repeat(" ", maxLine+1), "data " + long, `data"` + long, "data" + strings.Repeat(" ", maxLine), " data " + strings.Repeat("00", 500)} {
		refused(t, behindHead("elf", "data 7f46", next), 5, api.ErrLong)
		refused(t, behindHead("elf", "data 7f46", next, "pc 0"), 5, api.ErrLong)
	}
	good := asElf(b)
	refuses(t, api.ErrLong, append(slices.Clone(good), long)...)
	refuses(t, api.ErrLine, append(slices.Clone(good), "bla")...)
	refuses(t, api.ErrName, append(slices.Clone(good), "reg a9 0")...)
}

// TestP14_1Source: a source adds its parts and sets Pc; it ends with a line that is just end.
func TestP14_1Source(t *testing.T) {
	src := []string{"  .equ N, 2 # a note", "# end", "", "  nop", "_start: li a0, N\r", "end: j end", " .data", ".byte 1, 2", ".bss", ".zero 3"}
	im, err := asm.Assemble(joined(src...))
	if err != nil {
		t.Fatal(err)
	}
	if len(im.Segs) != 3 || im.Entry != ram+4 {
		t.Fatalf("the source has grown idle: %+v", im)
	}
	loaded := func(d *api.Deck) { d.Parts, d.Cpu.Pc = im.Segs, ram+4 }
	for _, end := range []string{"end", " end", "end\t", " \tend \t "} {
		says(t, loaded, append(append([]string{"pc 4", "source"}, src...), end)...)
		says(t, func(d *api.Deck) { loaded(d); d.Cpu.Pc = 6; d.Worlds = make([]api.World, 2) }, append(append([]string{" source "}, src...), end, "# x", "pc 6", "steps 2")...)
	}
	says(t, func(d *api.Deck) {}, "pc 4", "source", "end")
	says(t, func(d *api.Deck) { d.Cpu.Pc = 4 }, "source", "end", "pc 4")
	says(t, func(d *api.Deck) {}, "source", "", "# step", "#end", "end")
	says(t, func(d *api.Deck) { d.Parts = append(slices.Clone(im.Segs), im.Segs...); d.Cpu.Pc = ram + 4 },
		slices.Concat([]string{"source"}, src, []string{"end", "source"}, src, []string{"end"})...)
	d := read(t, strings.TrimSuffix(behindHead("source", "nop", "end"), "\n"))
	if len(d.Parts) != 1 {
		t.Errorf("a source whose end ends with the text: %+v", d)
	}
}

// TestP14_1SourceEnds: what is nearly an end belongs to the source; a source without an end is refused behind the last line.
func TestP14_1SourceEnds(t *testing.T) {
	for _, line := range []string{"end # x", "end end", "End", "end\r", "\rend", "end:", `"end"`, "end,", "ends", "# end", "end\x00"} {
		refused(t, behindHead("source", "nop", line), 6, api.ErrLine)
		refused(t, behindHead("source", line, ""), 6, api.ErrLine)
	}
	refused(t, behindHead("source"), 4, api.ErrLine)
	refused(t, "anvil 1\nram 64\nsource", 4, api.ErrLine)
	refused(t, "anvil 1\nram 64\nsource\n\n\n", 6, api.ErrLine)
	refused(t, behindHead("source", "bla bla", "step", "pc 0"), 7, api.ErrLine)
	refused(t, behindHead("source", "bla bla", "step", "pc 0")+"nop", 8, api.ErrLine)
	refused(t, behindHead("source", "end", "end"), 5, api.ErrLine)
	says(t, func(d *api.Deck) { d.Parts = []api.Seg{{Addr: ram, Size: 4, Flags: 5, Data: []byte{0x13, 0, 0, 0}}} }, "source", "end: nop", "end")
}

// TestP14_1SourceFaults: a source's own fault has its line counted from the source's line on, its place and its reason.
func TestP14_1SourceFaults(t *testing.T) {
	refusedAt(t, behindHead("source", " foo a0", "end"), 4, 1, api.ErrWord)
	refusedAt(t, behindHead("source", "nop", "# x", "", "x: x: nop", "end", "bla"), 7, 3, api.ErrTwice)
	refusedAt(t, behindHead("# x", "mode u", "source", "nop", "j there", "end", "pc x"), 7, 2, api.ErrNoName)
	refusedAt(t, behindHead("source", ".byte 1 / 0", "end"), 4, 8, api.ErrZero)
	refusedAt(t, behindHead("source", "step", "end"), 4, 0, api.ErrWord)
	refusedAt(t, behindHead("source", "pc 0", "ram 16", "end"), 4, 0, api.ErrWord)
	refusedAt(t, behindHead("source", ".data", ".zero 65536", ".text", "nop", "end"), 8, 0, api.ErrRange)
	refusedAt(t, behindHead("source", ".data", ".zero 65536", ".text", "nop", "", "", "end"), 10, 0, api.ErrRange)
	many := make([]string, api.MaxLines)
	says(t, func(*api.Deck) {}, slices.Concat([]string{"source"}, many, []string{"end"})...)
	refusedAt(t, behindHead(slices.Concat([]string{"source"}, many, []string{"", "end"})...), 3, 0, api.ErrMany)
	refusedAt(t, behindHead(slices.Concat([]string{"mode u", "source", "bla"}, many, []string{"end"})...), 4, 0, api.ErrMany)
}

// TestP14_1ProgramParts: a program's parts are counted and looked at behind its own faults, at its line.
func TestP14_1ProgramParts(t *testing.T) {
	one := []string{"part 0x80000000 1 r"}
	var fifteen []string
	for range maxParts - 1 {
		fifteen = append(fifteen, one...)
	}
	source := []string{"source", "nop", "end"}
	two := []string{"source", "nop", ".data", ".byte 1", "end"}
	b, _ := sample(t)
	count := func(want int, groups ...[]string) {
		t.Helper()
		if d := read(t, behindHead(slices.Concat(groups...)...)); len(d.Parts) != want {
			t.Errorf("P14.1: %d parts, want %d", len(d.Parts), want)
		}
	}
	count(16, fifteen, source)
	count(16, fifteen[1:], two)
	count(16, fifteen[1:], asElf(b))
	count(16, asElf(b), fifteen[1:])
	count(16, fifteen, one, []string{"source", "end"})
	refused(t, behindHead(slices.Concat(fifteen, two)...), 3+15, api.ErrMany)
	refused(t, behindHead(slices.Concat(fifteen, asElf(b))...), 3+15, api.ErrMany)
	refused(t, behindHead(slices.Concat(fifteen, one, source)...), 3+16, api.ErrMany)
	refused(t, behindHead(slices.Concat(fifteen, asElf(b), []string{"bla"})...), 3+15, api.ErrMany)
	refused(t, behindHead(slices.Concat(fifteen, source, one)...), 2+15+3+1, api.ErrMany)
	refusedAt(t, behindHead(slices.Concat(fifteen, one, []string{"source", "bla", "end"})...), 2+16+2, 0, api.ErrWord)
	refusedAt(t, behindHead(slices.Concat(fifteen, one, []string{"elf", "data 7f46"})...), 2+16+1, 1, api.ErrMagic)

	tooGreat := []string{"source", ".zero 65", "end"}
	refused(t, behindHead(tooGreat...), 3, api.ErrSetting)
	refused(t, behindHead(slices.Concat(fifteen, one, tooGreat)...), 3+16, api.ErrMany)
	refused(t, behindHead(slices.Concat(one, []string{"source", "nop", ".data", ".zero 49", "end"})...), 4, api.ErrSetting)
	count(2, []string{"source", "nop", ".data", ".zero 48", "end"})
	for _, p := range []api.Seg{{Addr: ram - 1, Size: 1}, {Addr: ram + 64, Size: 1}, {Addr: ram, Size: 65}, {Addr: ram + 1, Size: 64}, {Addr: 0, Size: 8}, {Addr: 1<<64 - 1, Size: 1}, {Addr: ram, Size: 1 << 63}, {Addr: ram + 8, Size: 1 << 63}} {
		refused(t, behindHead(asElf(file(t, ram, p))...), 3, api.ErrSetting)
		refused(t, behindHead(append(asElf(file(t, ram, p)), "bla")...), 3, api.ErrSetting)
		refused(t, behindHead(slices.Concat(fifteen, one, asElf(file(t, ram, p)))...), 3+16, api.ErrMany)
	}
	for _, p := range []api.Seg{{Addr: ram, Size: 64}, {Addr: ram + 63, Size: 1}, {Addr: ram, Size: 1, Flags: 7, Data: []byte{1}}} {
		says(t, func(d *api.Deck) { d.Parts, d.Cpu.Pc = []api.Seg{p}, 8 }, asElf(file(t, 8, p))...)
	}
}

// TestP14_1ProgramsAlike: a program says the same as source, as its file, and as bytes.
func TestP14_1ProgramsAlike(t *testing.T) {
	src := []string{"nop", "_start: j _start", ".data", "x: .dword x", ".bss", ".zero 8"}
	im, err := asm.Assemble(joined(src...))
	if err != nil {
		t.Fatal(err)
	}
	want := read(t, behindHead(slices.Concat([]string{"source"}, src, []string{"end"})...))
	if len(want.Parts) != 3 || want.Cpu.Pc != ram+4 {
		t.Fatalf("%+v", want)
	}
	reads(t, behindHead(asElf(file(t, im.Entry, im.Segs...))...), want)
	reads(t, behindHead("pc 0x80000004", "part 0x80000000 8 rx", "data 130000006f000000", "part 0x80000010 8 rw", "data 1000008000000000", "part 0x80000020 8 rw"), want)
}
