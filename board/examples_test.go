package board_test

import (
	"testing"

	"anvil/deck"
)

// example is a deck and its trace, without the trace's first line.
type example struct{ name, deck, trace string }

// examples is the ten of section 15.3.
func examples() []example {
	return []example{
		{"Nothing to do", `anvil 1
ram 8
`, `end running
pc 0x80000000
mode m
`},
		{"One instruction", `anvil 1
ram 16
part 0x80000000 4 rx
data 93001000
step
`, `1 retire m 0x80000000 raw=0x100093 len=4 rd=ra val=0x1 -> m 0x80000004 ; addi ra, zero, 1
end running
pc 0x80000004
mode m
reg ra 0x1
csr mcycle 0x1
csr minstret 0x1
`},
		{"No program: the zero parcel, and then nothing at 0", `anvil 1
ram 8
steps 2
`, `1 exception m 0x80000000 len=2 cause=0x2 -> m 0x0 ; .half 0x0000
2 exception m 0x0 cause=0x1 -> m 0x0
end running
pc 0x0
mode m
csr mstatus 0x200001800
csr mcause 0x1
csr mcycle 0x2
`},
		{"A letter on the console, and off", `anvil 1
ram 64
source
  lui a0, 0x10000  # the console
  addi a1, zero, 72
  sb a1, 0(a0)
  lui a2, 0x100
  lui a3, 5
  addi a3, a3, 0x555
  sw a3, 0(a2)
end
steps 9
`, `1 retire m 0x80000000 raw=0x10000537 len=4 rd=a0 val=0x10000000 -> m 0x80000004 ; lui a0, 0x10000
2 retire m 0x80000004 raw=0x4800593 len=4 rd=a1 val=0x48 -> m 0x80000008 ; addi a1, zero, 72
3 retire m 0x80000008 raw=0xb50023 len=4 mem=w addr=0x10000000 size=1 data=0x48 -> m 0x8000000c ; sb a1, 0(a0)
4 retire m 0x8000000c raw=0x100637 len=4 rd=a2 val=0x100000 -> m 0x80000010 ; lui a2, 0x100
5 retire m 0x80000010 raw=0x56b7 len=4 rd=a3 val=0x5000 -> m 0x80000014 ; lui a3, 0x5
6 retire m 0x80000014 raw=0x55568693 len=4 rd=a3 val=0x5555 -> m 0x80000018 ; addi a3, a3, 1365
7 retire m 0x80000018 raw=0xd62023 len=4 mem=w addr=0x100000 size=4 data=0x5555 -> m 0x8000001c ; sw a3, 0(a2)
8 off m 0x8000001c -> m 0x8000001c
9 off m 0x8000001c -> m 0x8000001c
end passed
pc 0x8000001c
mode m
reg a0 0x10000000
reg a1 0x48
reg a2 0x100000
reg a3 0x5555
csr mcycle 0x7
csr minstret 0x7
output "H"
`},
		{"A call from U, and back", `anvil 1
ram 32
mode u
csr mtvec 0x80000010
pmp 0 0x1f 0x3fffffffffffff
part 0x80000000 4 rx
data 73000000
part 0x80000010 4 rx
data 73002030
steps 2
`, `1 exception u 0x80000000 raw=0x73 len=4 cause=0x8 -> m 0x80000010 ; ecall
2 retire m 0x80000010 raw=0x30200073 len=4 -> u 0x80000000 ; mret
end running
pc 0x80000000
mode u
csr mstatus 0x200000080
csr mtvec 0x80000010
csr mepc 0x80000000
csr mcause 0x8
csr mcycle 0x2
csr minstret 0x1
pmp 0 0x1f 0x3fffffffffffff
`},
		{"U without a grant", `anvil 1
ram 8
mode u
step
`, `1 exception u 0x80000000 cause=0x1 tval=0x80000000 -> m 0x0
end running
pc 0x0
mode m
csr mepc 0x80000000
csr mcause 0x1
csr mtval 0x80000000
csr mcycle 0x1
`},
		{"A software interrupt, vectored", `anvil 1
ram 8
csr mstatus 8
csr mie 8
csr mtvec 0x80000011
step soft
`, `1 interrupt m 0x80000000 cause=0x8000000000000003 -> m 0x8000001c
end running
pc 0x8000001c
mode m
csr mstatus 0x200001880
csr mtvec 0x80000011
csr mie 0x8
csr mepc 0x80000000
csr mcause 0x8000000000000003
csr mcycle 0x1
`},
		{"Waiting, and woken without an interrupt", `anvil 1
ram 8
csr mie 0x800
part 0x80000000 6 rx
data 730050100100
steps 2
step ext
`, `1 retire m 0x80000000 raw=0x10500073 len=4 -> m 0x80000004 ; wfi
2 wait m 0x80000004 -> m 0x80000004
3 retire m 0x80000004 raw=0x1 len=2 -> m 0x80000006 ; c.nop
end running
pc 0x80000006
mode m
csr mie 0x800
csr mcycle 0x3
csr minstret 0x2
`},
		{"A byte from the console", `anvil 1
ram 16
part 0x80000000 8 rx
data 3705001083050500
step
step input "\xff"
`, `1 retire m 0x80000000 raw=0x10000537 len=4 rd=a0 val=0x10000000 -> m 0x80000004 ; lui a0, 0x10000
2 retire m 0x80000004 raw=0x50583 len=4 rd=a1 val=0xffffffffffffffff mem=r addr=0x10000000 size=1 -> m 0x80000008 ; lb a1, 0(a0)
end running
pc 0x80000008
mode m
reg a0 0x10000000
reg a1 0xffffffffffffffff
csr mcycle 0x2
csr minstret 0x2
`},
		{"A locked entry binds M too", `anvil 1
ram 8
reg a0 0x80000000
pmp 0 0x95 0x20000000
part 0x80000000 4 rx
data 23200500
step
`, `1 exception m 0x80000000 raw=0x52023 len=4 cause=0x7 tval=0x80000000 -> m 0x0 ; sw zero, 0(a0)
end running
pc 0x0
mode m
reg a0 0x80000000
csr mstatus 0x200001800
csr mepc 0x80000000
csr mcause 0x7
csr mtval 0x80000000
csr mcycle 0x1
pmp 0 0x95 0x20000000
`},
	}
}

// TestExamplesOfBoard: the ten examples, byte for byte; they read back as what was played, too.
func TestExamplesOfBoard(t *testing.T) {
	if len(examples()) != 10 {
		t.Fatalf("%d examples", len(examples()))
	}
	for _, one := range examples() {
		if told := ran(t, one.deck); told != head+one.trace {
			t.Errorf("%s: the trace is\n%s, want\n%s", one.name, told, head+one.trace)
		}
		tr, err := deck.ParseTrace(head + one.trace)
		if err != nil || !sameTrace(tr, played(t, read(t, one.deck))) {
			t.Errorf("P14: %s: the trace reads as\n%+v, %v", one.name, tr, err)
		}
		follows(t, read(t, one.deck))
	}
}
