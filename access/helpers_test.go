package access_test

import (
	"bytes"
	"fmt"
	"math"
	"math/rand/v2"
	"testing"

	"anvil/access"
	"anvil/api"
	"anvil/bus"
)

// The addresses as the document writes them, and the bits of Mstatus that count here.
const (
	finisher = 0x100000
	msip     = 0x2000000
	mtimecmp = 0x2004000
	mtime    = 0x200bff8
	console  = 0x10000000
	ram      = 0x80000000
	last     = math.MaxUint64
	uxl      = 2 << 32
	mpp      = 3 << 11
	mprv     = 1 << 17
)

// call is one call of the package: of an AMO size is the operation's number; a Fetch has no more than its name.
type call struct {
	name string
	addr uint64
	size int
	v    uint64
}

// answer is all that a call answers: what it has not is zero. number: what was fetched, loaded, or there ahead of an AMO.
type answer struct {
	number, stored uint64
	length         int
	done           bool
	cpu            api.Cpu
	trap           api.Trap
}

// names is the calls that take an address.
func names() []string { return []string{"Load", "Store", "Reserve", "Conditional", "Amo"} }

func (k call) do(c api.Cpu, b *bus.Bus) answer {
	var a answer
	switch k.name {
	case "Fetch":
		var raw uint32
		raw, a.length, a.trap = access.Fetch(c, b)
		a.number = uint64(raw)
	case "Load":
		a.number, a.trap = access.Load(c, b, k.addr, k.size)
	case "Store":
		a.cpu, a.trap = access.Store(c, b, k.addr, k.size, k.v)
	case "Reserve":
		a.number, a.cpu, a.trap = access.Reserve(c, b, k.addr, k.size)
	case "Conditional":
		a.done, a.cpu, a.trap = access.Conditional(c, b, k.addr, k.size, k.v)
	case "Amo":
		a.number, a.stored, a.cpu, a.trap = access.Amo(c, b, k.size, k.addr, k.v)
	}
	return a
}

func (k call) String() string { return fmt.Sprintf("%s(%#x, %d, %#x)", k.name, k.addr, k.size, k.v) }

// givesCpu tells whether the call answers a Cpu.
func (k call) givesCpu() bool { return k.name != "Fetch" && k.name != "Load" }

func trap(cause, tval uint64) api.Trap { return api.Trap{Is: true, Cause: cause, Tval: tval} }

// machine is M with nothing set.
func machine() api.Cpu { return api.Cpu{Mode: api.M, Mstatus: uxl} }

// user is U with one entry over every address that has these bits.
func user(bits uint8) api.Cpu { return with(api.Cpu{Mstatus: uxl}, 0, 0x18|bits, 1<<54-1) }

// borrowed is a Cpu in M whose loads, stores and atomics are of the mode that MPP tells.
func borrowed(c api.Cpu, before uint64) api.Cpu {
	c.Mode, c.Mstatus = api.M, uxl|mprv|before<<11
	return c
}

func with(c api.Cpu, i int, cfg uint8, addr uint64) api.Cpu {
	c.Pmp.Cfg[i], c.Pmp.Addr[i] = cfg, addr
	return c
}

func at(c api.Cpu, pc uint64) api.Cpu {
	c.Pc = pc
	return c
}

func holding(c api.Cpu, addr uint64, size int) api.Cpu {
	c.Res = api.Res{Valid: true, Addr: addr, Size: size}
	return c
}

// rich is a state of a bus with something in every field, and so many bytes of RAM.
func rich(size int) api.Bus {
	s := api.Bus{
		Msip: 1, Mtimecmp: 0xfedcba9876543210, Mtime: 0x8123456789abcdef,
		Ext: true, Soft: true, Ier: 9, Lcr: 0x83, Mcr: 0x15, Scratch: 0xc7, Overrun: true,
		Input: []byte("input"), Output: []byte("out"),
	}
	for i := range size {
		s.Ram = append(s.Ram, byte(0xf0-i*7))
	}
	return s
}

func of(t *testing.T, s api.Bus) *bus.Bus {
	t.Helper()
	b, e := bus.From(s)
	if b == nil || e != api.OK {
		t.Fatalf("bus.From answers error %d", e)
	}
	return b
}

// blank is a bus with 4096 bytes of RAM, as the chapter's examples have it.
func blank(t *testing.T) *bus.Bus {
	t.Helper()
	b, e := bus.New(4096)
	if b == nil || e != api.OK {
		t.Fatalf("bus.New answers error %d", e)
	}
	return b
}

func sameState(a, b api.Bus) bool {
	if !bytes.Equal(a.Ram, b.Ram) || !bytes.Equal(a.Input, b.Input) || !bytes.Equal(a.Output, b.Output) {
		return false
	}
	return plainState(a) == plainState(b)
}

// plainState is a state's fields that are no lists.
func plainState(s api.Bus) [13]uint64 {
	n := func(b bool) uint64 {
		if b {
			return 1
		}
		return 0
	}
	return [13]uint64{
		uint64(s.Msip), s.Mtimecmp, s.Mtime, n(s.Ext), n(s.Soft), uint64(s.Ier), uint64(s.Lcr), uint64(s.Mcr),
		uint64(s.Scratch), n(s.Overrun), uint64(s.Off), uint64(s.Code), uint64(len(s.Ram)),
	}
}

// gives holds what a call on b answers against what is written out; of the Cpu that it must be c but for Res.
func gives(t *testing.T, k call, c api.Cpu, b *bus.Bus, want answer, res api.Res) api.Cpu {
	t.Helper()
	got := k.do(c, b)
	if k.givesCpu() {
		want.cpu = modelProper(c)
		want.cpu.Res = res
	}
	if got != want {
		t.Errorf("%v in mode %d answers\n%+v, want\n%+v", k, c.Mode, got, want)
	}
	return got.cpu
}

// stops holds that a call traps so, that all else is zero, that the Cpu is the proper one, and that the bus is as it was.
func stops(t *testing.T, k call, c api.Cpu, b *bus.Bus, cause, tval uint64) {
	t.Helper()
	was := b.State()
	gives(t, k, c, b, answer{trap: trap(cause, tval)}, modelProper(c).Res)
	if !sameState(was, b.State()) {
		t.Errorf("%v traps, and the bus was\n%+v, is\n%+v", k, was, b.State())
	}
}

// loads holds that a call answers this number and leaves the reservation.
func loads(t *testing.T, k call, c api.Cpu, b *bus.Bus, want uint64) {
	t.Helper()
	gives(t, k, c, b, answer{number: want}, c.Res)
}

func there(t *testing.T, b *bus.Bus, addr uint64, size int, want uint64) {
	t.Helper()
	if v, is := b.Load(addr, size); v != want || !is {
		t.Errorf("%d bytes at %#x are %#x, %v, want %#x", size, addr, v, is, want)
	}
}

// sizes is every size that may be asked, and what may not be.
func sizes() []int {
	return []int{-1, 0, 1, 2, 3, 4, 5, 6, 7, 8, 9, 16, 32, 64, 256 + 4, -4, -8, 1<<32 + 4, math.MinInt, math.MaxInt}
}

// amos is the eighteen operations.
func amos() []int {
	return []int{
		api.OpAmoswapW, api.OpAmoaddW, api.OpAmoxorW, api.OpAmoandW, api.OpAmoorW,
		api.OpAmominW, api.OpAmomaxW, api.OpAmominuW, api.OpAmomaxuW,
		api.OpAmoswapD, api.OpAmoaddD, api.OpAmoxorD, api.OpAmoandD, api.OpAmoorD,
		api.OpAmominD, api.OpAmomaxD, api.OpAmominuD, api.OpAmomaxuD,
	}
}

// noAmos is numbers that are no AMO: all others of api, and what is none at all.
func noAmos() []int {
	all := []int{-1, api.Ops, api.Ops + 1, 1 << 32, 1<<32 + api.OpAmoaddW, -api.OpAmoaddW, math.MinInt, math.MaxInt}
	for op := range api.Ops {
		is := false
		for _, amo := range amos() {
			is = is || amo == op
		}
		if !is {
			all = append(all, op)
		}
	}
	return all
}

// addresses is those around the first and the last bytes of so much RAM, around each device, at both ends of the address space, and where nothing is: every alignment among them.
func addresses(size int) []uint64 {
	all := []uint64{0x1000, 1 << 31, 1 << 32, 1<<32 + ram, 1 << 63, 1<<63 + ram}
	for _, middle := range []uint64{ram, ram + uint64(size), finisher, msip, mtimecmp, mtime, console} {
		for i := range uint64(20) {
			all = append(all, middle-9+i)
		}
	}
	for i := range uint64(10) {
		all = append(all, i, last-i)
	}
	return all
}

// random is a source that gives the same numbers each time.
func random(seed uint64) *rand.Rand { return rand.New(rand.NewPCG(seed, 11)) }
