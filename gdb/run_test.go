package gdb_test

import (
	"fmt"
	"testing"

	"anvil/api"
	"anvil/gdb"
)

// spent is a deck whose store by s0 is the step of this number, from 3 on, behind a loop of two instructions; ahead of it stands a nop, by which an even number begins.
func spent(t *testing.T, step int) api.Deck {
	t.Helper()
	d := sourced(t, 64, "nop", "1: addi a0, a0, -1", "bnez a0, 1b", "sw a1, 0(s0)", "2: j 2b")
	d.Cpu.X[10], d.Cpu.X[11] = uint64(step-1)/2, 0x5555
	if step%2 == 1 {
		d.Cpu.Pc += 4
	}
	return d
}

// stored is the address behind the store of spent.
const stored = ram + 16

// off is a deck that turns the power off at its third step, with this value at the finisher.
func off(t *testing.T, v uint64) api.Deck {
	t.Helper()
	d := sourced(t, 64, "nop", "nop", "sw a1, 0(s0)", "1: j 1b")
	d.Cpu.X[8], d.Cpu.X[11] = finisher, v
	return d
}

// ended is a stub whose power was turned off so.
func ended(t *testing.T, v uint64, want string) *gdb.Stub {
	t.Helper()
	s := made(t, off(t, v))
	ask(t, s, "c", want)
	stands(t, s, 3, ram+12)
	return s
}

// powers is what is stored at the finisher, and the state it is told as.
func powers() map[uint64]string {
	return map[uint64]string{
		0x5555: "W00", 0x15555: "W00", 0xffff5555: "W00", 0x3333: "W00", 0x13333: "W01", 0x73333: "W07", 0x2a3333: "W2a", 0xff3333: "Wff", 0x1003333: "W00", 0xabcd3333: "Wcd", 0xffff3333: "Wff", 0x80003333: "W00",
	}
}

// TestP17_5One: s makes one step, from the address on, if one is told, made even.
func TestP17_5One(t *testing.T) {
	for command, pc := range map[string]uint64{
		"s": ram, "vCont;s": ram, "vCont;s:1": ram, "s80000000": ram, "s80000001": ram, "s80000002": ram + 2, "s80000003": ram + 2, "s0000000080000004": ram + 4, "s0": 0, "sffffffffffffffff": ones - 1, "sFFFFFFFFFFFFFFFE": ones - 1, "s8000000A": ram + 10,
	} {
		d := little()
		d.Worlds = []api.World{{Tick: true}}
		s, b := made(t, d), boarded(t, d)
		c := b.Whole().Cpu
		c.Pc = pc
		b.Set(c)
		b.Step(d.Worlds[0])
		ask(t, s, command, "S05")
		holds(t, "P17.5: "+command, s, b.Whole(), 1)
	}
}

// TestP17_5Stops: stops are looked at by c alone: s is told as the state, whatever it meets.
func TestP17_5Stops(t *testing.T) {
	d := sourced(t, 64, "sd a0, 0(s0)", "ld a0, 0(s0)", "nop")
	d.Cpu.X[8] = ram + 32
	s := made(t, d)
	run(s, "Z0,80000004,2", "Z1,80000008,2", "Z2,80000020,8", "Z3,80000020,8", "Z4,80000020,8", "Z0,80000000,0")
	for i, command := range []string{"s", "vCont;s", "s80000000", "vCont;s:1"} {
		ask(t, s, command, "S05")
		stands(t, s, i+1, ram+4+uint64(i)%2*4)
	}
}

// TestP17_5Power: s that turns the power off tells how; with the power off no step is made, and no pc set.
func TestP17_5Power(t *testing.T) {
	for v, want := range powers() {
		s := made(t, off(t, v))
		for range 2 {
			ask(t, s, "s", "S05")
			asked(t, s, "S05", "?")
		}
		ask(t, s, "s", want)
		stands(t, s, 3, ram+12)
		asked(t, s, want, "?", "s", "s80000000", "s0", "vCont;s", "vCont;s:1", "c", "c80000000", "c0", "vCont;c", "vCont;c:1")
		asked(t, s, "E01", "sx", "cx", "s10000000000000000")
	}
	for _, v := range []uint64{0, 0x5554, 0x3332, 0x55550000, 0x33330000, 0x7777} {
		s := made(t, off(t, v))
		ask(t, s, "c", "S02")
		asked(t, s, "S05", "?")
		stands(t, s, maxRun, ram+12)
	}
}

// TestP17_5Off: with the power off registers and RAM are still told and set; it stays off.
func TestP17_5Off(t *testing.T) {
	s := ended(t, 0x53333, "W05")
	ask(t, s, "P20="+word(ram), "OK")
	ask(t, s, "Pb41="+word(5), "OK")
	ask(t, s, "M80000000,2:0505", "OK")
	asked(t, s, word(ram), "p20")
	asked(t, s, "0505", "m80000000,2")
	ask(t, s, "Z0,80000000,0", "OK")
	asked(t, s, "W05", "s", "c", "?", "s80000000")
	if c := s.Whole().Cpu; c.Mcycle != 5 || c.Pc != ram {
		t.Errorf("P17.5: mcycle %d, pc %#x", c.Mcycle, c.Pc)
	}
}

// TestP17_6Off: c ends with the power, and is told as the state.
func TestP17_6Off(t *testing.T) {
	for v, want := range powers() {
		for _, command := range []string{"c", "vCont;c", "vCont;c:1", "c80000000", "c80000001"} {
			s := made(t, off(t, v))
			ask(t, s, command, want)
			stands(t, s, 3, ram+12)
		}
		s := made(t, off(t, v))
		ask(t, s, "c80000008", want)
		stands(t, s, 1, ram+12)
	}
}

// TestP17_6Breaks: c ends where the hart stands at a breakpoint, of either type, and not at its own beginning.
func TestP17_6Breaks(t *testing.T) {
	for _, kind := range []string{"0", "1"} {
		for _, length := range []string{"0", "1", "2", "4", "ffffffffffffffff"} {
			s := made(t, little())
			ask(t, s, "Z"+kind+",80000000,"+length, "OK")
			ask(t, s, "Z"+kind+",80000002,"+length, "OK")
			ask(t, s, "Z"+kind+",80000003,"+length, "OK") // odd: never met
			ask(t, s, "c", "S05")
			stands(t, s, 1, ram+2)
			ask(t, s, "c", "S02")
			stands(t, s, 1+maxRun, ram+4)
			ask(t, s, "vCont;c", "S02")
			ask(t, s, "c80000000", "S05")
			stands(t, s, 2+2*maxRun, ram+2)
			ask(t, s, "c80000002", "S02")
			ask(t, s, "z"+kind+",80000002,"+length, "OK")
			ask(t, s, "c80000000", "S02")
		}
	}
	s := made(t, little())
	run(s, "Z2,80000002,1", "Z3,80000004,1", "Z4,80000002,2")
	ask(t, s, "c", "S02") // no breakpoints, and nothing that is loaded or stored
}

// TestP17_6Itself: an instruction that jumps to itself is done once, and stands at its breakpoint again.
func TestP17_6Itself(t *testing.T) {
	s := made(t, little())
	ask(t, s, "Z1,80000004,0", "OK")
	for i := range 5 {
		ask(t, s, "c80000004", "S05")
		stands(t, s, i+1, ram+4)
	}
}

// TestP17_6Traps: a breakpoint at a handler stops behind the trap's own step, be it an exception or an interrupt.
func TestP17_6Traps(t *testing.T) {
	d := sourced(t, 64, "ecall", "nop", "nop", "nop", "handler: nop", "1: j 1b")
	d.Cpu.Mtvec = ram + 16
	s := made(t, d)
	ask(t, s, "Z0,80000010,4", "OK")
	ask(t, s, "c", "S05")
	stands(t, s, 1, ram+16)
	d.Cpu.Pc, d.Cpu.Mie, d.Cpu.Mstatus = ram+4, 8, 8
	d.Worlds = []api.World{{}, {Soft: true}}
	s = made(t, d)
	ask(t, s, "Z0,80000010,4", "OK")
	ask(t, s, "c", "S05")
	stands(t, s, 2, ram+16)
	if c := s.Whole().Cpu; c.Mcause != 1<<63+3 || c.Mepc != ram+8 {
		t.Errorf("P17.6: the interrupt is %+v", c)
	}
}

// TestP17_6Waiting: a hart that waits at a breakpoint's address is not stopped there.
func TestP17_6Waiting(t *testing.T) {
	d := sourced(t, 64, "wfi", "nop", "nop", "1: j 1b", "handler: j handler")
	s := made(t, d)
	ask(t, s, "Z0,80000004,4", "OK")
	ask(t, s, "c", "S02")
	stands(t, s, maxRun, ram+4)
	ask(t, s, "c", "S02")
	stands(t, s, 2*maxRun, ram+4)
	if !s.Whole().Cpu.Waiting {
		t.Error("P17.6: the hart waits no more")
	}
	d.Cpu.Mie = 8
	d.Worlds = make([]api.World, 8)
	d.Worlds[6].Soft = true
	s = made(t, d)
	run(s, "Z0,80000004,4", "Z1,80000008,4")
	ask(t, s, "c", "S05") // woken, it does the nop in the same step
	stands(t, s, 7, ram+8)
	d.Cpu.Mstatus, d.Cpu.Mtvec = 8, ram+16
	s = made(t, d)
	run(s, "Z0,80000004,4", "Z0,80000010,4")
	ask(t, s, "c", "S05") // woken by an interrupt that is taken
	stands(t, s, 7, ram+16)
	d = sourced(t, 64, "nop", "1: j 1b")
	d.Cpu.Waiting = true
	s = made(t, d)
	run(s, "Z0,80000000,4")
	ask(t, s, "c", "S02") // it waits from the beginning on, wherever its pc is set
	ask(t, s, "c80000004", "S02")
	stands(t, s, 2*maxRun, ram+4)
	ask(t, s, "Z4,80000000,8", "OK")
	ask(t, s, "c80000000", "S02")
	stands(t, s, 3*maxRun, ram)
	for n, want := range map[int]string{maxRun - 1: "S05", maxRun: "S05", maxRun + 1: "S02"} {
		d = sourced(t, 64, "nop", "1: j 1b")
		d.Cpu.Waiting, d.Cpu.Mie, d.Worlds = true, 8, make([]api.World, n)
		d.Worlds[n-1].Soft = true
		s = made(t, d)
		ask(t, s, "Z0,80000004,4", "OK")
		ask(t, s, "c", want)
	}
}

// TestP17_6Run: nothing stops it: MaxRun steps, each time.
func TestP17_6Run(t *testing.T) {
	s := made(t, little())
	for i, command := range []string{"c", "vCont;c", "c80000004", "vCont;c:1", "c80000000"} {
		ask(t, s, command, "S02")
		stands(t, s, (i+1)*maxRun, ram+4)
	}
	s = made(t, little())
	run(s, "s", "s", "s")
	ask(t, s, "c", "S02")
	stands(t, s, 3+maxRun, ram+4)
}

// TestP17_6Spent: what happens at the last step that a c may make is told; what would at the next one is not.
func TestP17_6Spent(t *testing.T) {
	for _, step := range []int{3, 4, 5, 6, maxRun - 1, maxRun, maxRun + 1} {
		reached := step <= maxRun
		stop := func(what, want string, to uint64, stops ...string) {
			t.Helper()
			d := spent(t, step)
			d.Cpu.X[8] = to
			s := made(t, d)
			run(s, stops...)
			steps := step
			if !reached {
				want, steps = "S02", maxRun
			}
			ask(t, s, "c", want)
			if s.Steps() != steps {
				t.Errorf("P17.6: %s at step %d: %d steps", what, step, s.Steps())
			}
		}
		stop("off", "W00", finisher)
		stop("a watch", "T05watch:80000020;", ram+32, "Z2,80000020,4")
		stop("a breakpoint", "S05", ram+32, fmt.Sprintf("Z0,%x,4", stored))
		stop("a watch and a breakpoint", "T05awatch:80000023;", ram+32, fmt.Sprintf("Z0,%x,4", stored), "Z4,80000023,4")
		stop("off and a watch", "W00", finisher, "Z2,100000,4")
		stop("off and a breakpoint", "W00", finisher, fmt.Sprintf("Z0,%x,4", stored))
		stop("off, a watch and a breakpoint", "W00", finisher, fmt.Sprintf("Z1,%x,4", stored), "Z4,100000,4", "Z2,100003,1")
	}
}

// TestP17_6Order: two ends at once, with failed too: the first of the list is told.
func TestP17_6Order(t *testing.T) {
	for v, want := range powers() {
		s := made(t, off(t, v))
		run(s, "Z0,8000000c,4", "Z2,100000,4", "Z4,fffff,8")
		ask(t, s, "c", want)
		stands(t, s, 3, ram+12)
	}
	s := made(t, off(t, 7)) // a store that turns nothing off
	run(s, "Z0,8000000c,4", "Z2,100000,4")
	ask(t, s, "c", "T05watch:100000;")
	ask(t, s, "z2,100000,4", "OK")
	ask(t, s, "c80000000", "S05")
	stands(t, s, 6, ram+12)
}

// TestP17_6Keeps: pc alone is set: the reservation and all else of the Cpu stay.
func TestP17_6Keeps(t *testing.T) {
	for _, command := range []string{"s80000000", "c80000000"} {
		d := filled(api.U)
		d.Cpu.Pmp = api.Pmp{Cfg: [16]uint8{0x1f}, Addr: [16]uint64{1<<54 - 1}}
		d.Cpu.Waiting, d.Cpu.Mcountinhibit = false, 5
		d.Parts = []api.Seg{{Addr: ram, Size: 4, Data: []byte{1, 0, 1, 0}}}
		s := made(t, d)
		want := s.Whole()
		want.Cpu.Pc = ram + 2
		ask(t, s, "Z0,80000002,2", "OK")
		ask(t, s, command, "S05")
		holds(t, "17.4: "+command, s, want, 1)
	}
}
