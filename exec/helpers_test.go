package exec_test

import (
	"bytes"
	"math"
	"math/rand/v2"
	"testing"

	"anvil/api"
	"anvil/bus"
	"anvil/exec"
)

// The addresses as the document writes them, and the bits of Mstatus that count here.
const (
	finisher = 0x100000
	msip     = 0x2000000
	mtimecmp = 0x2004000
	mtime    = 0x200bff8
	console  = 0x10000000
	ram      = 0x80000000
	ones     = math.MaxUint64
	mie      = 1 << 3
	mpie     = 1 << 7
	mpp      = 3 << 11
	mprv     = 1 << 17
	tw       = 1 << 21
	uxl      = 2 << 32
)

// little is the bytes of RAM of most tests.
const little = 32

// answer is all that Do answers.
type answer struct {
	cpu  api.Cpu
	done api.Done
}

func do(c api.Cpu, b *bus.Bus, in api.Instr) answer {
	d, done := exec.Do(c, b, in)
	return answer{d, done}
}

// stopped is the Done of an exception.
func stopped(cause, tval uint64) api.Done {
	return api.Done{Trap: api.Trap{Is: true, Cause: cause, Tval: tval}}
}

// machine is M at the beginning of RAM with nothing else set.
func machine() api.Cpu { return api.Cpu{Pc: ram, Mode: api.M, Mstatus: uxl} }

// user is U at the beginning of RAM with one entry over every address that has these bits.
func user(bits uint8) api.Cpu {
	c := api.Cpu{Pc: ram, Mstatus: uxl}
	c.Pmp.Cfg[0], c.Pmp.Addr[0] = 0x18|bits, 1<<54-1
	return c
}

// borrowed is a Cpu in M whose accesses are those of U.
func borrowed(c api.Cpu) api.Cpu {
	c.Mode, c.Mstatus = api.M, uxl|mprv
	return c
}

// with is a Cpu whose registers from x1 on are these.
func with(c api.Cpu, x ...uint64) api.Cpu {
	copy(c.X[1:], x)
	return c
}

func at(c api.Cpu, pc uint64) api.Cpu {
	c.Pc = pc
	return c
}

func holding(c api.Cpu, addr uint64, size int) api.Cpu {
	c.Res = api.Res{Valid: true, Addr: addr, Size: size}
	return c
}

// rich is a state of a bus with something in every field; the top bit of each byte of RAM is set.
func rich(size int) api.Bus {
	s := api.Bus{
		Msip: 1, Mtimecmp: 0xfedcba9876543210, Mtime: 0x8123456789abcdef,
		Ext: true, Soft: true, Ier: 9, Lcr: 0x83, Mcr: 0x15, Scratch: 0xc7, Overrun: true,
		Input: []byte("\xe9nput"), Output: []byte("out"),
	}
	for i := range size {
		s.Ram = append(s.Ram, byte(0x80+i))
	}
	return s
}

func of(t *testing.T, s api.Bus) *bus.Bus {
	t.Helper()
	b, e := bus.From(s)
	if b == nil || e != api.OK {
		t.Fatalf("bus.From answers error %d", e)
	}
	return b
}

// blank is a bus with 4096 bytes of RAM, as the chapter's examples have it.
func blank(t *testing.T) *bus.Bus {
	t.Helper()
	b, e := bus.New(4096)
	if b == nil || e != api.OK {
		t.Fatalf("bus.New answers error %d", e)
	}
	return b
}

func sameState(a, b api.Bus) bool {
	if !bytes.Equal(a.Ram, b.Ram) {
		return false
	}
	return sameDevices(a, b) == [5]bool{true, true, true, true, true}
}

// sameDevices tells of the finisher, msip, mtimecmp, mtime and the console whether they are the same in both (the lines are of none: where they differ, all do).
func sameDevices(a, b api.Bus) [5]bool {
	if a.Ext != b.Ext || a.Soft != b.Soft {
		return [5]bool{}
	}
	registers := func(s api.Bus) [4]uint8 { return [4]uint8{s.Ier, s.Lcr, s.Mcr, s.Scratch} }
	return [5]bool{
		a.Off == b.Off && a.Code == b.Code,
		a.Msip == b.Msip,
		a.Mtimecmp == b.Mtimecmp,
		a.Mtime == b.Mtime,
		registers(a) == registers(b) && a.Overrun == b.Overrun && bytes.Equal(a.Input, b.Input) && bytes.Equal(a.Output, b.Output),
	}
}

// gives holds what Do on b answers: Done as it is written out, and the Cpu as c, proper, with Pc, Done's register, and what turn changes of it.
func gives(t *testing.T, c api.Cpu, b *bus.Bus, in api.Instr, pc uint64, done api.Done, turn ...func(c *api.Cpu)) api.Cpu {
	t.Helper()
	want := modelProper(c)
	want.Pc = pc
	if done.Rd != 0 {
		want.X[done.Rd] = done.Val
	}
	for _, one := range turn {
		one(&want)
	}
	got := do(c, b, in)
	if got.done != done {
		t.Errorf("%+v in mode %d: Done is\n%+v, want\n%+v", in, c.Mode, got.done, done)
	}
	if got.cpu != want {
		t.Errorf("%+v in mode %d: the Cpu is\n%+v, want\n%+v", in, c.Mode, got.cpu, want)
	}
	return got.cpu
}

// stops holds that an instruction has this exception, that all else of Done is 0, that the Cpu is the proper one, and that the bus is as it was.
func stops(t *testing.T, c api.Cpu, b *bus.Bus, in api.Instr, cause, tval uint64) {
	t.Helper()
	was := b.State()
	gives(t, c, b, in, modelProper(c).Pc, stopped(cause, tval))
	if !sameState(was, b.State()) {
		t.Errorf("%+v has an exception, and the bus was\n%+v, is\n%+v", in, was, b.State())
	}
}

func there(t *testing.T, b *bus.Bus, addr uint64, size int, want uint64) {
	t.Helper()
	if v, is := b.Load(addr, size); v != want || !is {
		t.Errorf("%d bytes at %#x are %#x, %v, want %#x", size, addr, v, is, want)
	}
}

// low is the lower size bytes of v.
func low(v uint64, size int) uint64 { return v << (64 - 8*size) >> (64 - 8*size) }

// signed is the lower size bytes of v, their sign extended.
func signed(v uint64, size int) uint64 { return uint64(int64(v<<(64-8*size)) >> (64 - 8*size)) }

// random is a source that gives the same numbers each time.
func random(seed uint64) *rand.Rand { return rand.New(rand.NewPCG(seed, 12)) }

// words is the numbers of 64 bits that a Cpu has.
func words(c *api.Cpu) []*uint64 {
	all := []*uint64{
		&c.Pc, &c.Mstatus, &c.Mtvec, &c.Mie, &c.Mcounteren, &c.Mcountinhibit, &c.Menvcfg,
		&c.Mscratch, &c.Mepc, &c.Mcause, &c.Mtval, &c.Mcycle, &c.Minstret,
	}
	for i := range c.X {
		all = append(all, &c.X[i])
	}
	for i := range c.Pmp.Addr {
		all = append(all, &c.Pmp.Addr[i])
	}
	return all
}

// somewhere is an address, mostly of RAM or a device, mostly aligned.
func somewhere(r *rand.Rand) uint64 {
	switch r.IntN(10) {
	case 0:
		return r.Uint64() >> r.IntN(64)
	case 1, 2:
		return [...]uint64{finisher, msip, mtimecmp, mtimecmp + 4, mtime, mtime + 4, console, console + uint64(r.IntN(8))}[r.IntN(8)]
	}
	addr := ram + uint64(r.IntN(little+4))
	if r.IntN(4) > 0 {
		addr &^= 7
	}
	return addr
}

// anyCpu is a Cpu of any bits, those that cannot be too; its registers are mostly addresses.
func anyCpu(r *rand.Rand) api.Cpu {
	c := api.Cpu{Mode: [...]int{api.M, api.M, api.U, api.U, 1, 2, -1, 7}[r.IntN(8)], Waiting: r.IntN(2) == 0}
	for _, w := range words(&c) {
		*w = r.Uint64()
	}
	for i := range c.X {
		if r.IntN(3) > 0 {
			c.X[i] = somewhere(r)
		}
	}
	if r.IntN(2) == 0 {
		c.Pmp.Cfg[r.IntN(16)], c.Pmp.Addr[r.IntN(16)] = uint8(r.Uint32()), somewhere(r)/4
	}
	if r.IntN(3) > 0 {
		c.Pmp.Cfg[2], c.Pmp.Addr[2] = 0x18|uint8(r.IntN(8)), ones
	}
	if width := 4 << r.IntN(2); r.IntN(3) > 0 {
		c.Res = api.Res{Valid: r.IntN(8) > 0, Addr: c.X[r.IntN(8)] &^ uint64(width-1), Size: width}
	} else if r.IntN(3) == 0 {
		c.Res = api.Res{Valid: true, Addr: somewhere(r), Size: r.IntN(10)}
	}
	return c
}

// anyInstr is a record, mostly of an instruction that can be, of any operation.
func anyInstr(r *rand.Rand) api.Instr {
	in := api.Instr{
		Op: 1 + r.IntN(api.Ops-1), Rd: r.IntN(8), Rs1: r.IntN(8), Rs2: r.IntN(8), Len: 2 + 2*r.IntN(2),
		Imm: int64(r.IntN(33) - 16), Raw: r.Uint32(), Aq: r.IntN(2) == 0, Rl: r.IntN(2) == 0,
	}
	if r.IntN(3) == 0 {
		in.Rd, in.Rs1, in.Rs2 = r.IntN(32), r.IntN(32), r.IntN(32)
	}
	switch r.IntN(8) {
	case 0:
		in.Imm = int64(r.Uint64()) >> r.IntN(64)
	case 1, 2, 3, 4:
		in.Imm = 0
	}
	if familyOf(in.Op) == "csr" && r.IntN(8) > 0 {
		in.Imm = csrs()[r.IntN(len(csrs()))]
	}
	switch r.IntN(60) {
	case 0:
		in.Op = wrongOps()[r.IntN(len(wrongOps()))]
	case 1:
		in.Rd = r.IntN(100) - 50
	case 2:
		in.Rs1 = r.IntN(100) - 50
	case 3:
		in.Rs2 = r.IntN(100) - 50
	case 4:
		in.Len = r.IntN(8) - 1
	}
	return in
}

// csrs is numbers of CSRs: of every kind that there is, and some that are none.
func csrs() []int64 {
	return []int64{
		0xf11, 0xf12, 0xf13, 0xf14, 0xf15, 0x300, 0x301, 0x304, 0x305, 0x306, 0x30a, 0x320, 0x323, 0x33f,
		0x340, 0x341, 0x342, 0x343, 0x344, 0x3a0, 0x3a2, 0x3b0, 0x3b2, 0x3bf, 0xb00, 0xb02, 0xb03, 0xb1f,
		0xc00, 0xc01, 0xc02, 0xc03, 0xc1f, 0x3a1, 0x100, 0x7a0, 0xb01, 0xfff, 0, -1, 4096, 4096 + 0x300,
	}
}

// wrongOps is numbers that are no operation.
func wrongOps() []int {
	return []int{0, -1, -api.OpAdd, api.Ops, api.Ops + 1, 1000, 1 << 32, 1<<32 + api.OpAdd, math.MinInt, math.MaxInt}
}
