package exec_test

import (
	"math"
	"testing"

	"anvil/api"
	"anvil/bus"
)

// gridCpus is Cpus whose x1, x2 and x3 are addresses and numbers of several kinds, in several modes.
func gridCpus() []api.Cpu {
	all := []api.Cpu{
		holding(with(machine(), ram+8, ram+16, 0x8000000000000005), ram+8, 8),
		holding(with(user(7), ram+4, ones, ram), ram+4, 4),
		with(user(4), ram+8, ram, ram),
		with(borrowed(user(3)), console, mtimecmp, msip),
		with(at(machine(), ones-1), ones, 1<<63, 1<<63-1),
		{Pc: ram + 1, Mode: 7, Mstatus: ones, X: [32]uint64{9, ram + 16, ram + 1, 7}},
	}
	all[0].Mepc, all[0].Mstatus = ram+24, uxl|mpp|mpie
	all[1].Mcounteren = 7
	return all
}

// immediates is 0, small ones, CSRs' numbers, and the last of both ends.
func immediates() []int64 {
	return []int64{0, 1, -1, 8, -8, 0x300, 0xb00, 0xb02, 0xc01, 2047, -2048, math.MinInt32, math.MinInt64, math.MinInt64 + 1, math.MaxInt64}
}

// TestP12_3Grid: every operation, with every choice of its registers out of x0 to x3 (so that Rd is 0, or the same as Rs1, as Rs2, as both), both lengths, and immediates of both ends, against the chapter's table.
func TestP12_3Grid(t *testing.T) {
	s := rich(little)
	for op := 1; op < api.Ops; op++ {
		for registers := range 64 {
			in := api.Instr{Op: op, Rd: registers / 16, Rs1: registers / 4 % 4, Rs2: registers % 4, Raw: 0xfedcba98}
			for _, in.Imm = range immediates() {
				for i, c := range gridCpus() {
					in.Len = 2 + 2*((registers+i+int(in.Imm&1))%2)
					asModel(t, c, s, in)
				}
			}
		}
	}
}

// TestP12_3Lengths: every operation with both lengths, to x0 and to x31, from x30 and x29.
func TestP12_3Lengths(t *testing.T) {
	s := rich(little)
	for op := 1; op < api.Ops; op++ {
		for _, in := range []api.Instr{{Op: op, Rd: 31, Rs1: 30, Rs2: 29}, {Op: op, Rs1: 30, Rs2: 29}, {Op: op, Rd: 30, Rs1: 30, Rs2: 30}} {
			for _, in.Len = range []int{2, 4} {
				for _, in.Imm = range []int64{0, 8, -8, 0x340} {
					for _, c := range gridCpus() {
						c.X[30], c.X[29] = ram+16, 0xfedcba9876543210
						asModel(t, c, s, in)
					}
				}
			}
		}
	}
}

// TestP12_3Any: any record of any Cpu, those that cannot be among them.
func TestP12_3Any(t *testing.T) {
	r := random(1)
	for range 100000 {
		asModel(t, anyCpu(r), rich(little), anyInstr(r))
	}
}

// TestP12_3Runs: instructions behind one another on one bus, each of the Cpu that the one before answered, are as the model's.
func TestP12_3Runs(t *testing.T) {
	r := random(2)
	for range 600 {
		c := anyCpu(r)
		b, twin := of(t, rich(little)), of(t, rich(little))
		for range 80 {
			in := anyInstr(r)
			c.X[1+r.IntN(7)] = somewhere(r)
			c = oneOfRun(t, c, b, twin, in)
		}
	}
}

func oneOfRun(t *testing.T, c api.Cpu, b, twin *bus.Bus, in api.Instr) api.Cpu {
	t.Helper()
	got, want := do(c, b, in), modelDo(c, twin, in)
	if got != want || !sameState(b.State(), twin.State()) {
		t.Fatalf("%+v of %+v answers\n%+v, want\n%+v; the bus is\n%+v, want\n%+v", in, c, got, want, b.State(), twin.State())
	}
	return got.cpu
}
