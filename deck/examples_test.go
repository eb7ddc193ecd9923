package deck_test

import (
	"slices"
	"strings"
	"testing"

	"anvil/api"
	"anvil/deck"
)

// TestExample1OfDeck: the least deck.
func TestExample1OfDeck(t *testing.T) {
	text := joined("anvil 1", "ram 16")
	reads(t, text, api.Deck{Ram: 16, Cpu: api.Cpu{Pc: 0x80000000, Mode: api.M, Mstatus: 0x200000000}})
	prints(t, read(t, text), text+joined("pc 0x80000000", "mode m"))
}

// behindExample is a deck behind example 1.
func behindExample(lines ...string) string {
	return joined(append([]string{"anvil 1", "ram 16"}, lines...)...)
}

// TestExample2OfDeck: parts and their data.
func TestExample2OfDeck(t *testing.T) {
	refused(t, behindExample("  part 0x80000008 8 rx # x"), 3, api.ErrLine)
	want := plain(16)
	want.Parts = []api.Seg{{Addr: 0x80000008, Size: 8, Flags: 5, Data: []byte{0x13, 0, 0, 0, 0x0a}}}
	reads(t, behindExample("part 0x80000008 8 rx", "data 13000000", "# more", "data 0a"), want)
	refused(t, behindExample("part 0x80000008 9 -"), 3, api.ErrSetting)
	refused(t, behindExample("part 0x80000008 8 xr"), 3, api.ErrLine)
	refused(t, behindExample("part 0x80000008 8 -", "data 0"), 4, api.ErrLine)
}

// TestExample3OfDeck: registers, CSRs, entries and the reservation.
func TestExample3OfDeck(t *testing.T) {
	want := plain(16)
	want.Cpu.X[10] = 5
	reads(t, behindExample("reg a0 -1", "reg x10 5"), want)
	refused(t, behindExample("reg a9 5"), 3, api.ErrName)
	refused(t, behindExample("csr mip 1"), 3, api.ErrName)
	want = plain(16)
	want.Cpu.Mstatus = 0x200001888
	reads(t, behindExample("csr 0x300 0x1888"), want)
	refused(t, behindExample("pmp 16 0 0"), 3, api.ErrSetting)
	reads(t, behindExample("res 0x80000001 4"), plain(16))
	refused(t, behindExample("res 0x80000000 2"), 3, api.ErrSetting)
}

// TestExample4OfDeck: worlds.
func TestExample4OfDeck(t *testing.T) {
	want := plain(16)
	want.Worlds = slices.Repeat([]api.World{{Tick: true, Input: []byte("a\n")}}, 3)
	reads(t, behindExample(`steps 3 tick input "a\n"`), want)
	for _, line := range []string{"step tick tick", "step input a", "step input", "steps -1", `step "tick"`} {
		refused(t, behindExample(line), 3, api.ErrLine)
	}
	refused(t, behindExample("steps 0"), 3, api.ErrSetting)
	refused(t, behindExample("steps 4001"), 3, api.ErrMany)
	refused(t, behindExample("step", "pc 0"), 4, api.ErrLine)
}

// TestExample5OfDeck: rows' lines.
func TestExample5OfDeck(t *testing.T) {
	tellsRow(t, api.Row{Step: 1, Kind: api.RowRetire, Mode: 3, Pc: 0x80000000, Raw: 0x505, Len: 2, Rd: 10, Val: 1, Next: 0x80000002, NextMode: 3},
		"1 retire m 0x80000000 raw=0x505 len=2 rd=a0 val=0x1 -> m 0x80000002 ; c.addi a0, 1")
	tellsRow(t, api.Row{Step: 2, Kind: api.RowRetire, Mode: 3, Pc: 0x80000002, Raw: 0xa5a023, Len: 4, Mem: 2, Addr: 0x80000010, Size: 4, Data: 1, Next: 0x80000006, NextMode: 3},
		"2 retire m 0x80000002 raw=0xa5a023 len=4 mem=w addr=0x80000010 size=4 data=0x1 -> m 0x80000006 ; sw a0, 0(a1)")
	tellsRow(t, api.Row{Step: 3, Kind: api.RowException, Cause: 1, Next: 0x80000100, NextMode: 3}, "3 exception u 0x0 cause=0x1 -> m 0x80000100")
	tellsRow(t, api.Row{Step: 4, Kind: api.RowWait, Mode: 3, Pc: 0x80000100, Next: 0x80000100, NextMode: 3}, "4 wait m 0x80000100 -> m 0x80000100")
}

// TestExample6OfDeck: texts that are no traces'.
func TestExample6OfDeck(t *testing.T) {
	noTrace(t, "", 1)
	begin := []string{"anvil trace 1", "end running", "pc 0x0", "mode m"}
	for _, line := range []string{`output ""`, "reg a0 0x0", "csr mstatus 0x200000000", "csr mie 0x1"} {
		noTrace(t, joined(append(slices.Clone(begin), line)...), 5)
	}
	noTrace(t, joined(append(slices.Clone(begin), "reg a1 0x1", "reg a0 0x1")...), 6)
	noTrace(t, joined("anvil trace 1", "end running", "pc 0x1", "mode m"), 3)
	noTrace(t, "anvil trace 1\n", 2)
	noTrace(t, joined("anvil trace 1", "1 wait m 0x0 -> m 0x0", "2 retire m 0x0 raw=0x505 len=2 -> m 0x2 ; c.addi a0, 2", "end running", "pc 0x0", "mode m"), 3)
}

// played is the examples of the whole: each a deck and, behind dashes, its trace without the first line.
func played() []string {
	return []string{
		`anvil 1
ram 8
----
end running
pc 0x80000000
mode m
`,
		`anvil 1
ram 16
part 0x80000000 4 rx
data 93001000
step
----
1 retire m 0x80000000 raw=0x100093 len=4 rd=ra val=0x1 -> m 0x80000004 ; addi ra, zero, 1
end running
pc 0x80000004
mode m
reg ra 0x1
csr mcycle 0x1
csr minstret 0x1
`,
		`anvil 1
ram 8
steps 2
----
1 exception m 0x80000000 len=2 cause=0x2 -> m 0x0 ; .half 0x0000
2 exception m 0x0 cause=0x1 -> m 0x0
end running
pc 0x0
mode m
csr mstatus 0x200001800
csr mcause 0x1
csr mcycle 0x2
`,
		`anvil 1
ram 64
source
  lui a0, 0x10000  # the console
  addi a1, zero, 72
  sb a1, 0(a0)
  lui a2, 0x100
  lui a3, 5
  addi a3, a3, 0x555
  sw a3, 0(a2)
end
steps 9
----
1 retire m 0x80000000 raw=0x10000537 len=4 rd=a0 val=0x10000000 -> m 0x80000004 ; lui a0, 0x10000
2 retire m 0x80000004 raw=0x4800593 len=4 rd=a1 val=0x48 -> m 0x80000008 ; addi a1, zero, 72
3 retire m 0x80000008 raw=0xb50023 len=4 mem=w addr=0x10000000 size=1 data=0x48 -> m 0x8000000c ; sb a1, 0(a0)
4 retire m 0x8000000c raw=0x100637 len=4 rd=a2 val=0x100000 -> m 0x80000010 ; lui a2, 0x100
5 retire m 0x80000010 raw=0x56b7 len=4 rd=a3 val=0x5000 -> m 0x80000014 ; lui a3, 0x5
6 retire m 0x80000014 raw=0x55568693 len=4 rd=a3 val=0x5555 -> m 0x80000018 ; addi a3, a3, 1365
7 retire m 0x80000018 raw=0xd62023 len=4 mem=w addr=0x100000 size=4 data=0x5555 -> m 0x8000001c ; sw a3, 0(a2)
8 off m 0x8000001c -> m 0x8000001c
9 off m 0x8000001c -> m 0x8000001c
end passed
pc 0x8000001c
mode m
reg a0 0x10000000
reg a1 0x48
reg a2 0x100000
reg a3 0x5555
csr mcycle 0x7
csr minstret 0x7
output "H"
`,
		`anvil 1
ram 32
mode u
csr mtvec 0x80000010
pmp 0 0x1f 0x3fffffffffffff
part 0x80000000 4 rx
data 73000000
part 0x80000010 4 rx
data 73002030
steps 2
----
1 exception u 0x80000000 raw=0x73 len=4 cause=0x8 -> m 0x80000010 ; ecall
2 retire m 0x80000010 raw=0x30200073 len=4 -> u 0x80000000 ; mret
end running
pc 0x80000000
mode u
csr mstatus 0x200000080
csr mtvec 0x80000010
csr mepc 0x80000000
csr mcause 0x8
csr mcycle 0x2
csr minstret 0x1
pmp 0 0x1f 0x3fffffffffffff
`,
		`anvil 1
ram 8
mode u
step
----
1 exception u 0x80000000 cause=0x1 tval=0x80000000 -> m 0x0
end running
pc 0x0
mode m
csr mepc 0x80000000
csr mcause 0x1
csr mtval 0x80000000
csr mcycle 0x1
`,
		`anvil 1
ram 8
csr mstatus 8
csr mie 8
csr mtvec 0x80000011
step soft
----
1 interrupt m 0x80000000 cause=0x8000000000000003 -> m 0x8000001c
end running
pc 0x8000001c
mode m
csr mstatus 0x200001880
csr mtvec 0x80000011
csr mie 0x8
csr mepc 0x80000000
csr mcause 0x8000000000000003
csr mcycle 0x1
`,
		`anvil 1
ram 8
csr mie 0x800
part 0x80000000 6 rx
data 730050100100
steps 2
step ext
----
1 retire m 0x80000000 raw=0x10500073 len=4 -> m 0x80000004 ; wfi
2 wait m 0x80000004 -> m 0x80000004
3 retire m 0x80000004 raw=0x1 len=2 -> m 0x80000006 ; c.nop
end running
pc 0x80000006
mode m
csr mie 0x800
csr mcycle 0x3
csr minstret 0x2
`,
		`anvil 1
ram 16
part 0x80000000 8 rx
data 3705001083050500
step
step input "\xff"
----
1 retire m 0x80000000 raw=0x10000537 len=4 rd=a0 val=0x10000000 -> m 0x80000004 ; lui a0, 0x10000
2 retire m 0x80000004 raw=0x50583 len=4 rd=a1 val=0xffffffffffffffff mem=r addr=0x10000000 size=1 -> m 0x80000008 ; lb a1, 0(a0)
end running
pc 0x80000008
mode m
reg a0 0x10000000
reg a1 0xffffffffffffffff
csr mcycle 0x2
csr minstret 0x2
`,
		`anvil 1
ram 8
reg a0 0x80000000
pmp 0 0x95 0x20000000
part 0x80000000 4 rx
data 23200500
step
----
1 exception m 0x80000000 raw=0x52023 len=4 cause=0x7 tval=0x80000000 -> m 0x0 ; sw zero, 0(a0)
end running
pc 0x0
mode m
reg a0 0x80000000
csr mstatus 0x200001800
csr mepc 0x80000000
csr mcause 0x7
csr mtval 0x80000000
csr mcycle 0x1
pmp 0 0x95 0x20000000
`,
	}
}

// TestExamplesOfPlays: the decks and traces of the examples of the whole are read, and the traces are told again byte for byte.
func TestExamplesOfPlays(t *testing.T) {
	for i, own := range played() {
		text, trace, _ := strings.Cut(own, "----\n")
		trace = "anvil trace 1\n" + trace
		d := read(t, text)
		back(t, d)
		tr, err := deck.ParseTrace(trace)
		if err != nil || len(tr.Rows) != len(d.Worlds) {
			t.Fatalf("example %d: %v, %d rows of %d worlds", i+1, err, len(tr.Rows), len(d.Worlds))
		}
		if again, why := deck.PrintTrace(tr); again != trace || why != api.OK {
			t.Errorf("example %d: %q, error %d, want %q", i+1, again, why, trace)
		}
		if modelFault(trace) != 0 || modelTrace(tr) != trace {
			t.Errorf("example %d: the model tells %q", i+1, modelTrace(tr))
		}
	}
}
