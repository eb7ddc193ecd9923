package encode_test

import (
	"math"
	"testing"

	"anvil/api"
	"anvil/encode"
)

// allFields are the fields of a record that count.
var allFields = []string{"rd", "rs1", "rs2", "imm", "aq", "rl"}

// TestE1Operations: the operations are all that api numbers, and no other number is one.
func TestE1Operations(t *testing.T) {
	for i, o := range operations {
		if o.op != i+1 {
			t.Fatalf("the test's operation %d has the number %d", i+1, o.op)
		}
		is(t, api.Instr{Op: o.op}, o.bits, leastParcels[api.Instr{Op: o.op}], leastParcels[api.Instr{Op: o.op}] != 0)
	}
	if len(operations) != api.Ops-1 {
		t.Fatalf("the test knows %d operations, want %d", len(operations), api.Ops-1)
	}
	for _, op := range []int{math.MinInt, -100, -api.OpAddi, -1, api.OpIllegal, api.Ops, api.Ops + 1, api.Ops + api.OpAddi, 1000, 1<<32 + api.OpAddi, math.MaxInt} {
		isNone(t, api.Instr{Op: op}, api.ErrInstr)
		isNone(t, api.Instr{Op: op, Rd: 1, Rs1: 1, Imm: 1, Len: 4, Raw: 0x00108093}, api.ErrInstr)
	}
}

// TestE1Registers: each register of each operation, at the edges and beyond; where it has none, 0 alone.
func TestE1Registers(t *testing.T) {
	for _, o := range operations {
		for _, field := range []string{"rd", "rs1", "rs2"} {
			for _, n := range []int64{math.MinInt64, -32, -1, 32, 33, 40, 1 << 32, math.MaxInt64} {
				isNone(t, with(api.Instr{Op: o.op}, field, n), api.ErrInstr)
			}
			for n := range int64(32) {
				in := with(api.Instr{Op: o.op}, field, n)
				if n == 0 || o.has(field) {
					asModel(t, in)
					if e := encode.Check(in); e != api.OK {
						t.Errorf("E1: Check(%+v) = %d, want OK", in, e)
					}
				} else {
					isNone(t, in, api.ErrInstr)
				}
			}
		}
	}
}

// TestE1NoField: a field that the operation has not may not be set, whatever the others are.
func TestE1NoField(t *testing.T) {
	r := random(1)
	refused := 0
	for _, o := range operations {
		for _, field := range allFields {
			if o.has(field) {
				continue
			}
			for _, n := range []int64{1, -1, 31, 4095, math.MinInt64 + 1, math.MaxInt64} {
				isNone(t, with(anyRecord(r, o), field, n), api.ErrInstr)
				refused++
			}
		}
	}
	if refused < 6*api.Ops {
		t.Errorf("only %d records were refused: the test has grown idle", refused)
	}
}

// TestE1LowBits: an Imm that the operation has not is refused by each of its bits.
func TestE1LowBits(t *testing.T) {
	for _, o := range operations {
		if o.has("imm") {
			continue
		}
		for k := range 64 {
			isNone(t, api.Instr{Op: o.op, Imm: 1 << k}, api.ErrInstr)
		}
	}
}

// TestE1Edges: each immediate at its least and its greatest, one beyond, and between its steps.
func TestE1Edges(t *testing.T) {
	r := random(2)
	for _, o := range operations {
		if !o.has("imm") {
			continue
		}
		least, greatest, step := o.numbers()
		in := anyRecord(r, o)
		for _, n := range []int64{least, least + step, 0, step, greatest - step, greatest} {
			in.Imm = n
			if e := asModel(t, in); e != api.OK {
				t.Fatalf("the model refuses %+v", in)
			}
		}
		beyond := []int64{least - 1, least - step, greatest + 1, greatest + step, 2 * least, 2*greatest + 2*step, math.MinInt64, math.MaxInt64, math.MinInt64 + step, math.MaxInt64 - step + 1}
		beyond = append(beyond, 1<<32, -1<<32-step, 1<<32+step, 1<<33)
		for k := int64(1); k < step; k *= 2 {
			beyond = append(beyond, k, -k, least+k, greatest+k, greatest-k, step+k, step*2-k)
		}
		for _, n := range beyond {
			if n == 0 {
				continue
			}
			in.Imm = n
			isNone(t, in, api.ErrReach)
		}
	}
}

// TestE1Numbers: the edges in plain numbers, one operation a letter.
func TestE1Numbers(t *testing.T) {
	for _, c := range []struct {
		op  int
		imm int64
		e   api.Errno
	}{
		{api.OpAddi, -2048, api.OK}, {api.OpAddi, -2049, api.ErrReach}, {api.OpAddi, 2047, api.OK}, {api.OpAddi, 2048, api.ErrReach}, {api.OpAddi, 4095, api.ErrReach},
		{api.OpSd, -2048, api.OK}, {api.OpSd, -2049, api.ErrReach}, {api.OpSd, 2047, api.OK}, {api.OpSd, 2048, api.ErrReach},
		{api.OpBeq, -4096, api.OK}, {api.OpBeq, -4098, api.ErrReach}, {api.OpBeq, -4097, api.ErrReach}, {api.OpBeq, 4094, api.OK}, {api.OpBeq, 4095, api.ErrReach}, {api.OpBeq, 4096, api.ErrReach}, {api.OpBeq, 1, api.ErrReach}, {api.OpBeq, -1, api.ErrReach},
		{api.OpJal, -1048576, api.OK}, {api.OpJal, -1048578, api.ErrReach}, {api.OpJal, 1048574, api.OK}, {api.OpJal, 1048575, api.ErrReach}, {api.OpJal, 1048576, api.ErrReach}, {api.OpJal, -3, api.ErrReach},
		{api.OpLui, -2147483648, api.OK}, {api.OpLui, -2147487744, api.ErrReach}, {api.OpLui, 2147479552, api.OK}, {api.OpLui, 2147483648, api.ErrReach}, {api.OpLui, 4095, api.ErrReach}, {api.OpLui, -4097, api.ErrReach}, {api.OpLui, 2048, api.ErrReach}, {api.OpLui, 0x80000000, api.ErrReach},
		{api.OpAuipc, 4096, api.OK}, {api.OpAuipc, 4097, api.ErrReach},
		{api.OpCsrrw, 0, api.OK}, {api.OpCsrrw, 4095, api.OK}, {api.OpCsrrw, 4096, api.ErrReach}, {api.OpCsrrw, -1, api.ErrReach},
		{api.OpSlli, 0, api.OK}, {api.OpSlli, 63, api.OK}, {api.OpSlli, 64, api.ErrReach}, {api.OpSlli, -1, api.ErrReach},
		{api.OpSraiw, 0, api.OK}, {api.OpSraiw, 31, api.OK}, {api.OpSraiw, 32, api.ErrReach}, {api.OpSraiw, -1, api.ErrReach},
	} {
		if e := encode.Check(api.Instr{Op: c.op, Imm: c.imm}); e != c.e {
			t.Errorf("E1: Check({Op: %d, Imm: %d}) = %d, want %d", c.op, c.imm, e, c.e)
		}
		asModel(t, api.Instr{Op: c.op, Imm: c.imm})
	}
}

// TestE1Order: with an Imm beyond its reach, whatever else is wrong comes first.
func TestE1Order(t *testing.T) {
	r := random(3)
	for _, o := range operations {
		if !o.has("imm") {
			continue
		}
		_, greatest, _ := o.numbers()
		for _, field := range allFields {
			in := anyRecord(r, o)
			in.Imm = greatest + 1
			isNone(t, in, api.ErrReach)
			switch {
			case field == "imm":
				continue
			case o.has(field):
				isNone(t, with(in, field, 32), api.ErrInstr)
				isNone(t, with(in, field, -1), api.ErrInstr)
			default:
				isNone(t, with(in, field, 1), api.ErrInstr)
			}
		}
	}
}

// TestE1Ordering: of Aq and Rl atomics take each of them alone, both and neither; all others none.
func TestE1Ordering(t *testing.T) {
	for _, o := range operations {
		for _, aq := range []bool{false, true} {
			for _, rl := range []bool{false, true} {
				in := api.Instr{Op: o.op, Aq: aq, Rl: rl}
				atomic := o.op >= api.OpLrW
				if aq || rl {
					if !atomic {
						isNone(t, in, api.ErrInstr)
						continue
					}
				}
				want := o.bits
				if aq {
					want += 0x04000000
				}
				if rl {
					want += 0x02000000
				}
				if raw, e := encode.Encode(in); raw != want || e != api.OK {
					t.Errorf("E2: Encode(%+v) = %#08x, %d, want %#08x", in, raw, e, want)
				}
			}
		}
	}
}

// TestE1Lr: an LR has no Rs2, all other atomics have one.
func TestE1Lr(t *testing.T) {
	for _, o := range operations {
		if o.op < api.OpLrW {
			continue
		}
		in := api.Instr{Op: o.op, Rd: 3, Rs1: 4, Rs2: 31}
		if o.op == api.OpLrW || o.op == api.OpLrD {
			isNone(t, in, api.ErrInstr)
		} else {
			is(t, in, o.bits+31<<20+4<<15+3<<7, 0, false)
		}
	}
}

// TestE1Fence: the fields of FENCE and FENCE.I are free.
func TestE1Fence(t *testing.T) {
	is(t, api.Instr{Op: api.OpFence, Imm: 255}, 0x0ff0000f, 0, false)
	is(t, api.Instr{Op: api.OpFence, Rd: 31, Rs1: 31, Imm: 4095}, 0xffff8f8f, 0, false)
	is(t, api.Instr{Op: api.OpFenceI, Rd: 1, Imm: 0x833}, 0x8330108f, 0, false)
	is(t, api.Instr{Op: api.OpFenceI, Rd: 31, Rs1: 31, Imm: 4095}, 0xffff9f8f, 0, false)
	isNone(t, api.Instr{Op: api.OpFence, Rs2: 1}, api.ErrInstr)
	isNone(t, api.Instr{Op: api.OpFence, Imm: 4096}, api.ErrReach)
	isNone(t, api.Instr{Op: api.OpFenceI, Imm: -1}, api.ErrReach)
}

// TestE1LenAndRaw: they do not count, whatever they are, with records that there are and with others.
func TestE1LenAndRaw(t *testing.T) {
	r := random(4)
	for _, o := range operations {
		for _, length := range []int{math.MinInt, -1, 0, 1, 2, 3, 4, 5, math.MaxInt} {
			for _, raw := range []uint32{0, 1, 0x13, 0xffff, 0x00100073, math.MaxUint32, r.Uint32()} {
				in := anyRecord(r, o)
				in.Len, in.Raw = length, raw
				if e := asModel(t, in); e != api.OK {
					t.Fatalf("the model refuses %+v", in)
				}
			}
		}
	}
	isNone(t, api.Instr{Len: 4, Raw: 0x13}, api.ErrInstr)
	isNone(t, api.Instr{Len: 2, Raw: 0x0001}, api.ErrInstr)
}

// TestRule1Encode: whatever a record holds, the four functions say of it what the model says.
func TestRule1Encode(t *testing.T) {
	r := random(5)
	wild := []int64{math.MinInt64, math.MinInt64 + 1, -4097, -4096, -2049, -2048, -33, -32, -1, 0, 0, 0, 1, 2, 8, 15, 16, 31, 32, 63, 64, 2047, 2048, 4094, 4095, 4096, 1<<31 - 4096, 1 << 31, 1<<32 + 4, math.MaxInt64}
	met := map[api.Errno]int{}
	for range 60_000 {
		in := anyRecord(r, operations[r.IntN(len(operations))])
		for range r.IntN(3) {
			in = with(in, allFields[r.IntN(len(allFields))], wild[r.IntN(len(wild))])
		}
		if r.IntN(20) == 0 {
			in.Op = int(wild[r.IntN(len(wild))])
		}
		in.Len, in.Raw = r.IntN(6)-1, r.Uint32()
		met[asModel(t, in)]++
	}
	for _, e := range []api.Errno{api.OK, api.ErrInstr, api.ErrReach} {
		if met[e] < 1000 {
			t.Errorf("only %d records had %d: the test has grown idle", met[e], e)
		}
	}
}
