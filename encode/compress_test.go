package encode_test

import (
	"testing"

	"anvil/api"
	"anvil/decode"
	"anvil/encode"
)

// compresses checks a record's least parcel.
func compresses(t *testing.T, in api.Instr, want uint16) {
	t.Helper()
	if p, ok := encode.Compress(in); p != want || !ok {
		t.Errorf("E3: Compress(%+v) = %#04x, %v, want %#04x, true", in, p, ok, want)
	}
}

// compressesNot checks that a record that there is has no parcel.
func compressesNot(t *testing.T, in api.Instr) {
	t.Helper()
	if p, ok := encode.Compress(in); p != 0 || ok {
		t.Errorf("E3: Compress(%+v) = %#04x, %v, want 0, false", in, p, ok)
	}
	if e := encode.Check(in); e != api.OK {
		t.Errorf("E1: Check(%+v) = %d, want OK", in, e)
	}
}

// TestE3All: of every record that a parcel has, the least of all its parcels.
func TestE3All(t *testing.T) {
	for _, in := range shortRecords {
		compresses(t, in, leastParcels[in])
	}
	if len(shortRecords) < 30_000 || len(shortRecords) != len(leastParcels) {
		t.Errorf("only %d records: the test has grown idle", len(shortRecords))
	}
}

// TestE3Near: records that differ from a parcel's in one field have a parcel only if one of the 65536 says them.
func TestE3Near(t *testing.T) {
	r := random(20)
	parcels, none := 0, 0
	for _, in := range shortRecords {
		field := allFields[r.IntN(len(allFields))]
		n := r.Int64N(32)
		if field == "imm" {
			n = in.Imm + []int64{-4096, -512, -64, -32, -16, -8, -4, -2, -1, 1, 2, 4, 8, 16, 32, 64, 512, 4096, 8192, 1 << 17, 1 << 18, 1 << 32}[r.IntN(22)]
		}
		near := with(in, field, n)
		want, is := leastParcels[near]
		if is {
			parcels++
		} else {
			none++
		}
		if p, ok := encode.Compress(near); p != want || ok != is {
			t.Errorf("E3: Compress(%+v) = %#04x, %v, want %#04x, %v", near, p, ok, want, is)
		}
	}
	if parcels < 3000 || none < 3000 {
		t.Errorf("%d had parcels, %d had none: the test has grown idle", parcels, none)
	}
}

// TestE3Least: records that several parcels say.
func TestE3Least(t *testing.T) {
	for _, c := range []struct {
		in    api.Instr
		least uint16
		other uint16
	}{
		{api.Instr{Op: api.OpAddi}, 0x0001, 0x4001},                          // c.nop, c.li
		{api.Instr{Op: api.OpAddi, Imm: -1}, 0x107d, 0x507d},                 // c.nop -1, c.li
		{api.Instr{Op: api.OpAddi, Imm: 31}, 0x007d, 0x407d},                 // c.nop 31, c.li
		{api.Instr{Op: api.OpAddi, Rd: 2, Rs1: 2, Imm: 16}, 0x0141, 0x6141},  // c.addi, c.addi16sp
		{api.Instr{Op: api.OpAddi, Rd: 2, Rs1: 2, Imm: -16}, 0x1141, 0x717d}, // c.addi, c.addi16sp
		{api.Instr{Op: api.OpAdd, Rs2: 5}, 0x8016, 0x9016},                   // c.mv, c.add
		{api.Instr{Op: api.OpAdd, Rd: 0, Rs1: 0, Rs2: 31}, 0x807e, 0x907e},   // c.mv, c.add
	} {
		compresses(t, c.in, c.least)
		if got := plain(decode.Decode(uint32(c.other))); got != c.in {
			t.Errorf("the test's parcel %#04x says %+v, not %+v", c.other, got, c.in)
		}
	}
}

// TestE3Forms: one record of each row of the table of parcels, in plain numbers.
func TestE3Forms(t *testing.T) {
	for _, c := range []struct {
		in     api.Instr
		parcel uint16
	}{
		{api.Instr{Op: api.OpAddi, Rd: 15, Rs1: 2, Imm: 1020}, 0x1ffc},
		{api.Instr{Op: api.OpAddi, Rd: 8, Rs1: 2, Imm: 4}, 0x0040},
		{api.Instr{Op: api.OpLw, Rd: 15, Rs1: 8, Imm: 124}, 0x5c7c},
		{api.Instr{Op: api.OpLd, Rd: 8, Rs1: 15, Imm: 248}, 0x7fe0},
		{api.Instr{Op: api.OpSw, Rs1: 15, Rs2: 8, Imm: 124}, 0xdfe0},
		{api.Instr{Op: api.OpSd, Rs1: 8, Rs2: 15, Imm: 248}, 0xfc7c},
		{api.Instr{Op: api.OpAddi, Rd: 31, Rs1: 31, Imm: -32}, 0x1f81},
		{api.Instr{Op: api.OpAddiw, Rd: 10, Rs1: 10, Imm: 31}, 0x257d},
		{api.Instr{Op: api.OpAddi, Rd: 10}, 0x4501},
		{api.Instr{Op: api.OpAddi, Rd: 2, Rs1: 2, Imm: -512}, 0x7101},
		{api.Instr{Op: api.OpAddi, Rd: 2, Rs1: 2, Imm: 496}, 0x617d},
		{api.Instr{Op: api.OpLui, Rd: 31, Imm: -4096}, 0x7ffd},
		{api.Instr{Op: api.OpLui, Rd: 1, Imm: 31 * 4096}, 0x60fd},
		{api.Instr{Op: api.OpLui, Imm: -32 * 4096}, 0x7001},
		{api.Instr{Op: api.OpSrli, Rd: 8, Rs1: 8, Imm: 63}, 0x907d},
		{api.Instr{Op: api.OpSrai, Rd: 10, Rs1: 10, Imm: 63}, 0x957d},
		{api.Instr{Op: api.OpAndi, Rd: 15, Rs1: 15, Imm: -32}, 0x9b81},
		{api.Instr{Op: api.OpSub, Rd: 8, Rs1: 8, Rs2: 15}, 0x8c1d},
		{api.Instr{Op: api.OpXor, Rd: 8, Rs1: 8, Rs2: 15}, 0x8c3d},
		{api.Instr{Op: api.OpOr, Rd: 8, Rs1: 8, Rs2: 15}, 0x8c5d},
		{api.Instr{Op: api.OpAnd, Rd: 8, Rs1: 8, Rs2: 15}, 0x8c7d},
		{api.Instr{Op: api.OpSubw, Rd: 8, Rs1: 8, Rs2: 15}, 0x9c1d},
		{api.Instr{Op: api.OpAddw, Rd: 8, Rs1: 8, Rs2: 15}, 0x9c3d},
		{api.Instr{Op: api.OpJal, Imm: -2048}, 0xb001},
		{api.Instr{Op: api.OpJal, Imm: 2046}, 0xaffd},
		{api.Instr{Op: api.OpBeq, Rs1: 15, Imm: -256}, 0xd381},
		{api.Instr{Op: api.OpBne, Rs1: 8, Imm: 254}, 0xec7d},
		{api.Instr{Op: api.OpSlli, Rd: 31, Rs1: 31, Imm: 63}, 0x1ffe},
		{api.Instr{Op: api.OpSlli}, 0x0002},
		{api.Instr{Op: api.OpLw, Rd: 31, Rs1: 2, Imm: 252}, 0x5ffe},
		{api.Instr{Op: api.OpLd, Rd: 1, Rs1: 2, Imm: 504}, 0x70fe},
		{api.Instr{Op: api.OpJalr, Rs1: 1}, 0x8082},
		{api.Instr{Op: api.OpJalr, Rd: 1, Rs1: 1}, 0x9082},
		{api.Instr{Op: api.OpAdd, Rd: 31, Rs2: 1}, 0x8f86},
		{api.Instr{Op: api.OpAdd, Rd: 31, Rs1: 31, Rs2: 1}, 0x9f86},
		{api.Instr{Op: api.OpEbreak}, 0x9002},
		{api.Instr{Op: api.OpSw, Rs1: 2, Imm: 252}, 0xdf82},
		{api.Instr{Op: api.OpSd, Rs1: 2, Rs2: 31, Imm: 504}, 0xfffe},
	} {
		compresses(t, c.in, c.parcel)
		c.in.Len, c.in.Raw = 4, 0xdeadbeef
		compresses(t, c.in, c.parcel)
	}
}

// TestE3None: records that are just beyond a row, and operations that have no row.
func TestE3None(t *testing.T) {
	for _, in := range []api.Instr{
		{Op: api.OpAddi, Rd: 8, Rs1: 2},            // n is 0
		{Op: api.OpAddi, Rd: 8, Rs1: 2, Imm: 1024}, // beyond it
		{Op: api.OpAddi, Rd: 8, Rs1: 2, Imm: 6},    // between its steps
		{Op: api.OpAddi, Rd: 16, Rs1: 2, Imm: 4},   // not among x8 to x15
		{Op: api.OpAddi, Rd: 7, Rs1: 2, Imm: 4},
		{Op: api.OpAddi, Rd: 8, Rs1: 3, Imm: 4}, // not the stack pointer
		{Op: api.OpAddi, Rd: 5, Rs1: 5, Imm: 32},
		{Op: api.OpAddi, Rd: 5, Rs1: 5, Imm: -33},
		{Op: api.OpAddi, Rd: 2, Rs1: 2, Imm: 512},
		{Op: api.OpAddi, Rd: 2, Rs1: 2, Imm: -528},
		{Op: api.OpAddi, Rd: 2, Rs1: 2, Imm: 40},
		{Op: api.OpAddi, Rd: 3, Rs1: 3, Imm: 64},
		{Op: api.OpAddi, Rd: 5, Rs1: 6, Imm: 1},
		{Op: api.OpAddi, Rd: 0, Rs1: 6, Imm: 1},
		{Op: api.OpAddiw, Imm: 1}, // r is 0
		{Op: api.OpAddiw, Rd: 5, Rs1: 6, Imm: 1},
		{Op: api.OpAddiw, Rd: 5, Rs1: 5, Imm: 32},
		{Op: api.OpLui, Rd: 2, Imm: 4096}, // r is 2
		{Op: api.OpLui, Rd: 5},            // i6 is 0
		{Op: api.OpLui, Rd: 5, Imm: 32 * 4096},
		{Op: api.OpLui, Rd: 5, Imm: -33 * 4096},
		{Op: api.OpLui, Rd: 5, Imm: 63 * 4096}, // not a number of six bits none its sign
		{Op: api.OpAuipc, Rd: 5, Imm: 4096},
		{Op: api.OpLw, Rd: 8, Rs1: 9, Imm: 128},
		{Op: api.OpLw, Rd: 8, Rs1: 9, Imm: -4},
		{Op: api.OpLw, Rd: 8, Rs1: 9, Imm: 2},
		{Op: api.OpLw, Rd: 0, Rs1: 2, Imm: 4}, // r is 0
		{Op: api.OpLw, Rd: 1, Rs1: 2, Imm: 256},
		{Op: api.OpLd, Rd: 8, Rs1: 9, Imm: 256},
		{Op: api.OpLd, Rd: 8, Rs1: 9, Imm: 4},
		{Op: api.OpLd, Rd: 0, Rs1: 2, Imm: 8},
		{Op: api.OpLd, Rd: 1, Rs1: 2, Imm: 512},
		{Op: api.OpSw, Rs1: 9, Rs2: 16},
		{Op: api.OpSw, Rs1: 16, Rs2: 9},
		{Op: api.OpSw, Rs1: 2, Rs2: 16, Imm: 256},
		{Op: api.OpSd, Rs1: 2, Rs2: 16, Imm: 512},
		{Op: api.OpSd, Rs1: 2, Rs2: 16, Imm: -8},
		{Op: api.OpSrli, Rd: 16, Rs1: 16, Imm: 1},
		{Op: api.OpSrli, Rd: 8, Rs1: 9, Imm: 1},
		{Op: api.OpAndi, Rd: 8, Rs1: 8, Imm: 32},
		{Op: api.OpOri, Rd: 8, Rs1: 8, Imm: 1},
		{Op: api.OpSub, Rd: 8, Rs1: 9, Rs2: 10},
		{Op: api.OpSub, Rd: 8, Rs1: 8, Rs2: 16},
		{Op: api.OpSll, Rd: 8, Rs1: 8, Rs2: 9},
		{Op: api.OpMul, Rd: 8, Rs1: 8, Rs2: 9},
		{Op: api.OpJal, Rd: 1}, // RV64 has no c.jal
		{Op: api.OpJal, Imm: 2048},
		{Op: api.OpJal, Imm: -2050},
		{Op: api.OpBeq, Rs1: 8, Imm: 256},
		{Op: api.OpBeq, Rs1: 8, Imm: -258},
		{Op: api.OpBeq, Rs1: 8, Rs2: 1},
		{Op: api.OpBeq, Rs2: 8}, // the other way round
		{Op: api.OpBeq},         // x0 is not among x8 to x15
		{Op: api.OpBlt, Rs1: 8},
		{Op: api.OpSlli, Rd: 5, Rs1: 6, Imm: 1},
		{Op: api.OpSlliw, Rd: 5, Rs1: 5, Imm: 1},
		{Op: api.OpJalr}, // r is 0
		{Op: api.OpJalr, Rs1: 1, Imm: 2},
		{Op: api.OpJalr, Rd: 2, Rs1: 1},
		{Op: api.OpJalr, Rd: 1},
		{Op: api.OpAdd, Rd: 1}, // t is 0
		{Op: api.OpAdd, Rd: 1, Rs1: 1},
		{Op: api.OpAdd, Rd: 1, Rs1: 2},
		{Op: api.OpAdd, Rd: 1, Rs1: 2, Rs2: 1}, // the other way round
		{Op: api.OpEcall}, {Op: api.OpMret}, {Op: api.OpWfi}, {Op: api.OpFence}, {Op: api.OpFenceI},
		{Op: api.OpCsrrw, Rd: 8, Rs1: 8}, {Op: api.OpLrW, Rd: 8, Rs1: 8}, {Op: api.OpAmoaddD, Rd: 8, Rs1: 8, Rs2: 8},
	} {
		compressesNot(t, in)
	}
}

// TestE3NoRecord: what is no record has no parcel, though its low bits are those of one that has.
func TestE3NoRecord(t *testing.T) {
	r := random(21)
	for _, in := range shortRecords {
		if r.IntN(20) != 0 {
			continue
		}
		for _, field := range []string{"rd", "rs1", "rs2"} {
			for _, more := range []int64{32, -32, 1 << 32} {
				isNone(t, with(in, field, more), api.ErrInstr)
			}
		}
		for _, wrong := range []api.Instr{
			{Op: in.Op, Rd: in.Rd + 32, Rs1: in.Rs1, Rs2: in.Rs2, Imm: in.Imm},
			{Op: in.Op, Rd: in.Rd, Rs1: in.Rs1 - 32, Rs2: in.Rs2, Imm: in.Imm},
			{Op: in.Op, Rd: in.Rd, Rs1: in.Rs1, Rs2: in.Rs2 + 8<<32, Imm: in.Imm},
			{Op: in.Op, Rd: in.Rd, Rs1: in.Rs1, Rs2: in.Rs2, Imm: in.Imm, Aq: true},
			{Op: in.Op, Rd: in.Rd, Rs1: in.Rs1, Rs2: in.Rs2, Imm: in.Imm, Rl: true},
			{Op: in.Op + api.Ops, Rd: in.Rd, Rs1: in.Rs1, Rs2: in.Rs2, Imm: in.Imm},
			{Op: -in.Op, Rd: in.Rd, Rs1: in.Rs1, Rs2: in.Rs2, Imm: in.Imm},
		} {
			isNone(t, wrong, api.ErrInstr)
		}
		far := in
		far.Imm += 1 << 32
		if p, ok := encode.Compress(far); p != 0 || ok {
			t.Errorf("E3: Compress(%+v) = %#04x, %v, want 0, false", far, p, ok)
		}
	}
}
