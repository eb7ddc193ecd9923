package exec_test

import (
	"math"
	"testing"

	"anvil/api"
)

// TestP12_3CannotOp: an Op below 1, at api.Ops and beyond it, whatever else the record says.
func TestP12_3CannotOp(t *testing.T) {
	b := of(t, rich(little))
	for _, op := range wrongOps() {
		for _, c := range gridCpus() {
			for _, in := range []api.Instr{{}, {Rd: 1, Rs1: 2, Rs2: 3, Imm: -1, Len: 4, Raw: 7}, {Rd: 32, Len: 3, Raw: math.MaxUint32}} {
				in.Op = op
				stops(t, c, b, in, 2, uint64(in.Raw))
			}
		}
	}
}

// TestP12_3CannotRegister: every operation with one register that there is not; also where the operation does not look at it.
func TestP12_3CannotRegister(t *testing.T) {
	b := of(t, rich(little))
	c := holding(with(machine(), ram, ram+8, ram+16), ram, 8)
	for op := 1; op < api.Ops; op++ {
		for _, n := range []int{-1, 32, 33, -32, 64, 1 << 32, math.MinInt, math.MaxInt} {
			for _, in := range []api.Instr{{Rd: n, Rs1: 1, Rs2: 1}, {Rd: 1, Rs1: n, Rs2: 1}, {Rd: 1, Rs1: 1, Rs2: n}, {Rd: n, Rs1: n, Rs2: n}} {
				in.Op, in.Len, in.Raw = op, 4, 0x80000007
				stops(t, c, b, in, 2, 0x80000007)
			}
		}
	}
}

// TestP12_3CannotLength: every operation with a length that is none.
func TestP12_3CannotLength(t *testing.T) {
	b := of(t, rich(little))
	c := holding(with(machine(), ram, ram+8, ram+16), ram, 8)
	for op := 1; op < api.Ops; op++ {
		for _, n := range []int{0, 1, 3, 5, 6, 8, -2, -4, 1<<32 + 4, math.MinInt, math.MaxInt} {
			stops(t, c, b, api.Instr{Op: op, Rd: 1, Rs1: 1, Rs2: 1, Len: n, Raw: 9}, 2, 9)
		}
	}
}

// TestP12_3CannotLast: the last register and both lengths can be.
func TestP12_3CannotLast(t *testing.T) {
	b := of(t, rich(little))
	c := machine()
	c.X[31] = 5
	for _, n := range []int{2, 4} {
		gives(t, c, b, api.Instr{Op: api.OpAdd, Rd: 31, Rs1: 31, Rs2: 31, Len: n}, ram+uint64(n), api.Done{Rd: 31, Val: 10})
	}
}

// TestSection12_1Looked: Raw, Aq and Rl change nothing where there is no exception that tells Raw.
func TestSection12_1Looked(t *testing.T) {
	r := random(3)
	for range 30000 {
		c, in := anyCpu(r), anyInstr(r)
		other := in
		other.Raw, other.Aq, other.Rl = r.Uint32(), !in.Aq, r.IntN(2) == 0
		b, twin := of(t, rich(little)), of(t, rich(little))
		got, want := do(c, b, in), do(c, twin, other)
		if want.done.Trap.Cause == 2 {
			want.done.Trap.Tval = uint64(in.Raw)
		}
		if got != want || !sameState(b.State(), twin.State()) {
			t.Fatalf("%+v and %+v answer\n%+v and\n%+v", in, other, got, want)
		}
	}
}
