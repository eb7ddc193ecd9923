package decode_test

import (
	"math/rand/v2"
	"slices"
	"strings"
	"testing"

	"anvil/api"
	"anvil/decode"
)

// The values of each field at which the tests look.
var corners = map[string][]int64{
	"rd":   {0, 1, 2, 4, 8, 16, 31},
	"rs1":  {0, 1, 2, 4, 8, 16, 31},
	"rs2":  {0, 1, 2, 4, 8, 16, 31},
	"aq":   {0, 1},
	"rl":   {0, 1},
	"I":    {-2048, 2047, 0, -1, 1, 1024},
	"S":    {-2048, 2047, 0, -1, 1, 31, 32, 1024},
	"B":    {-4096, 4094, 0, -2, 2, 30, 32, 1024, 2048},
	"U":    {-1 << 31, 1<<31 - 4096, 0, -4096, 4096, 1 << 30},
	"J":    {-1 << 20, 1<<20 - 2, 0, -2, 2, 1024, 2048, 4096, 1 << 19},
	"N":    {0, 4095, 2048, 2047, 1},
	"six":  {0, 63, 31, 32, 1, 2, 4, 8, 16},
	"five": {0, 31, 1, 2, 4, 8, 16},
}

// anyRecord is a record of a rule with any values of its fields.
func anyRecord(r *rand.Rand, one rule) api.Instr {
	in := api.Instr{Op: one.op}
	for _, name := range strings.Fields(one.fields) {
		in = set(in, name, cut(r.Uint32(), name))
	}
	return in
}

// TestP5_2Rows: every operation, with each field at its corners, the others 0 or anything.
func TestP5_2Rows(t *testing.T) {
	r := random(1)
	for _, one := range allRules {
		long(t, one.code(), api.Instr{Op: one.op})
		for _, name := range strings.Fields(one.fields) {
			for _, v := range corners[name] {
				first := set(api.Instr{Op: one.op}, name, v)
				second := set(anyRecord(r, one), name, v)
				long(t, back(first), first)
				long(t, back(second), second)
			}
		}
	}
	for op, raw := range alone {
		long(t, raw, api.Instr{Op: op})
	}
}

// TestP5_2Operations: each of api's operations has a raw.
func TestP5_2Operations(t *testing.T) {
	for op := api.OpIllegal + 1; op < api.Ops; op++ {
		if raw := back(api.Instr{Op: op}); decode.Decode(raw).Op != op {
			t.Errorf("P5.2: Decode(%#08x) has Op %d, want %d", raw, decode.Decode(raw).Op, op)
		}
	}
}

// TestP5_2Immediates: every immediate of twelve or thirteen bits, and every bit of the longer ones.
func TestP5_2Immediates(t *testing.T) {
	for n := int64(-2048); n < 2048; n++ {
		long(t, uint32(n&0xfff)<<20|0x13, api.Instr{Op: api.OpAddi, Imm: n})
		long(t, uint32(n>>5&127)<<25|uint32(n&31)<<7|0x23, api.Instr{Op: api.OpSb, Imm: n})
		long(t, uint32(n&0xfff)<<20|0x1073, api.Instr{Op: api.OpCsrrw, Imm: n & 0xfff})
		b := 2 * n
		long(t, uint32(b>>12&1)<<31|uint32(b>>5&63)<<25|uint32(b>>1&15)<<8|uint32(b>>11&1)<<7|0x63, api.Instr{Op: api.OpBeq, Imm: b})
	}
	for k := range 20 {
		long(t, uint32(1)<<(12+k)|0x37, api.Instr{Op: api.OpLui, Imm: sx(1<<(12+k), 32)})
		long(t, ^uint32(0)<<(12+k)|0x17, api.Instr{Op: api.OpAuipc, Imm: -1 << (12 + k)})
	}
	for k, at := range []int{21, 22, 23, 24, 25, 26, 27, 28, 29, 30, 20, 12, 13, 14, 15, 16, 17, 18, 19, 31} {
		long(t, uint32(1)<<at|0x6f, api.Instr{Op: api.OpJal, Imm: sx(1<<(k+1), 21)})
	}
}

// TestP5_2Amounts: shift amounts, and what is above them.
func TestP5_2Amounts(t *testing.T) {
	for n := range int64(64) {
		amount := uint32(n) << 20
		long(t, 0x00001013|amount, api.Instr{Op: api.OpSlli, Imm: n})
		long(t, 0x00005013|amount, api.Instr{Op: api.OpSrli, Imm: n})
		long(t, 0x40005013|amount, api.Instr{Op: api.OpSrai, Imm: n})
		noLong(t, 0x40001013|amount)
		if n > 31 {
			noLong(t, 0x0000101b|amount)
			noLong(t, 0x0000501b|amount)
			noLong(t, 0x4000501b|amount)
			continue
		}
		long(t, 0x0000101b|amount, api.Instr{Op: api.OpSlliw, Imm: n})
		long(t, 0x0000501b|amount, api.Instr{Op: api.OpSrliw, Imm: n})
		long(t, 0x4000501b|amount, api.Instr{Op: api.OpSraiw, Imm: n})
		noLong(t, 0x4000101b|amount)
	}
}

// TestP5_2NoOpcode: of the opcodes those that no row names.
func TestP5_2NoOpcode(t *testing.T) {
	r := random(2)
	named := []int{0x37, 0x17, 0x6f, 0x67, 0x63, 0x03, 0x23, 0x13, 0x1b, 0x33, 0x3b, 0x0f, 0x73, 0x2f}
	for opcode := 3; opcode < 128; opcode += 4 {
		if slices.Contains(named, opcode) {
			continue
		}
		noLong(t, uint32(opcode))
		noLong(t, uint32(opcode)|0xffffff80)
		for range 2000 {
			noLong(t, r.Uint32()&^127|uint32(opcode))
		}
	}
}

// TestP5_2NoF3: of the opcodes' f3 those that no row names.
func TestP5_2NoF3(t *testing.T) {
	r := random(3)
	for opcode, named := range map[uint32][]int{
		0x67: {0}, 0x63: {0, 1, 4, 5, 6, 7}, 0x03: {0, 1, 2, 3, 4, 5, 6}, 0x23: {0, 1, 2, 3},
		0x1b: {0, 1, 5}, 0x0f: {0, 1}, 0x73: {0, 1, 2, 3, 5, 6, 7}, 0x2f: {2, 3},
	} {
		for f3 := range 8 {
			if slices.Contains(named, f3) {
				continue
			}
			noLong(t, opcode|uint32(f3)<<12)
			for range 500 {
				noLong(t, r.Uint32()&^0x707f|opcode|uint32(f3)<<12)
			}
		}
	}
}

// TestP5_2NoF7: of the opcodes with an f7 those f3 and f7 that no row names together.
func TestP5_2NoF7(t *testing.T) {
	r := random(4)
	for opcode, named := range map[uint32]map[int][]int{
		0x1b: {0: {1, 5}, 32: {5}},
		0x33: {0: {0, 1, 2, 3, 4, 5, 6, 7}, 1: {0, 1, 2, 3, 4, 5, 6, 7}, 32: {0, 5}},
		0x3b: {0: {0, 1, 5}, 1: {0, 4, 5, 6, 7}, 32: {0, 5}},
	} {
		for f7 := range 128 {
			for f3 := range 8 {
				if slices.Contains(named[f7], f3) || opcode == 0x1b && f3 == 0 {
					continue
				}
				code := opcode | uint32(f3)<<12 | uint32(f7)<<25
				noLong(t, code)
				for range 20 {
					noLong(t, code|r.Uint32()&0x01ff8f80)
				}
			}
		}
	}
}

// TestP5_2NoShift: of the shifts by up to 63 the upper six bits that no row names.
func TestP5_2NoShift(t *testing.T) {
	r := random(5)
	for upper := range 64 {
		for range 20 {
			rest := uint32(upper)<<26 | r.Uint32()&0x03ff8f80
			if upper != 0 {
				noLong(t, rest|0x1013)
			}
			if upper != 0 && upper != 16 {
				noLong(t, rest|0x5013)
			}
		}
	}
}

// TestP5_2NoAtomic: of the atomic ones the raw[31:27] that no row names.
func TestP5_2NoAtomic(t *testing.T) {
	r := random(6)
	named := []int{0, 1, 2, 3, 4, 8, 12, 16, 20, 24, 28}
	for kind := range 32 {
		if slices.Contains(named, kind) {
			continue
		}
		for _, opcode := range []uint32{0x202f, 0x302f} {
			noLong(t, opcode|uint32(kind)<<27)
			for range 200 {
				noLong(t, opcode|uint32(kind)<<27|r.Uint32()&0x07ff8f80)
			}
		}
	}
}

// TestP5_2System: of all raws of opcode 0x73 with f3 0 just four are instructions.
func TestP5_2System(t *testing.T) {
	for op, raw := range alone {
		long(t, raw, api.Instr{Op: op})
		for k := range 5 {
			noLong(t, raw|1<<(7+k))
			noLong(t, raw|1<<(15+k))
		}
	}
	for _, near := range []uint32{0x00200073, 0x00300073, 0x10200073, 0x10400073, 0x12000073, 0x30100073, 0x30300073, 0x70200073, 0xfff00073} {
		noLong(t, near)
	}
	for rest := range uint32(1 << 22) {
		noSystem(t, rest>>5<<15|rest&31<<7|0x73)
	}
}

// noSystem checks that a raw of opcode 0x73 with f3 0 is no instruction, unless it is one of the four.
func noSystem(t *testing.T, raw uint32) {
	switch raw {
	case 0x00000073, 0x00100073, 0x30200073, 0x10500073:
		return
	}
	if in := decode.Decode(raw); in != (api.Instr{Len: 4, Raw: raw}) {
		t.Fatalf("P5.2: Decode(%#08x) = %+v: it is illegal", raw, in)
	}
}

// TestP5_2Lr: a load that reserves has no second register.
func TestP5_2Lr(t *testing.T) {
	for _, marks := range []uint32{0, 1, 2, 3} {
		for rs2 := range uint32(32) {
			raw := 2<<27 | marks<<25 | rs2<<20 | 11<<15 | 10<<7 | 0x2f
			if rs2 != 0 {
				noLong(t, raw|2<<12)
				noLong(t, raw|3<<12)
				continue
			}
			in := api.Instr{Op: api.OpLrW, Rd: 10, Rs1: 11, Aq: marks >= 2, Rl: marks%2 == 1}
			long(t, raw|2<<12, in)
			in.Op = api.OpLrD
			long(t, raw|3<<12, in)
		}
	}
}

// TestP5_2Marks: Aq and Rl of every atomic one, and of nothing else.
func TestP5_2Marks(t *testing.T) {
	r := random(7)
	for _, one := range allRules {
		for range 50 {
			in := anyRecord(r, one)
			raw := back(in)
			got := decode.Decode(raw)
			if one.opcode != 0x2f {
				if got.Aq || got.Rl {
					t.Errorf("P5.2: Decode(%#08x) = %+v has Aq or Rl", raw, got)
				}
				continue
			}
			if got.Aq != (raw>>26&1 == 1) || got.Rl != (raw>>25&1 == 1) {
				t.Errorf("P5.2: Decode(%#08x) = %+v: its Aq or Rl is another", raw, got)
			}
		}
	}
}

// asModel holds a raw of four bytes against the model.
func asModel(t *testing.T, raw uint32) (api.Instr, bool) {
	t.Helper()
	want, count := modelLong(raw)
	if count > 1 {
		t.Fatalf("the model has %d rules for %#08x", count, raw)
	}
	if in := decode.Decode(raw); in != want {
		t.Fatalf("P5.2: Decode(%#08x) = %+v, want %+v", raw, in, want)
	}
	return want, count == 1
}

// sweep goes through every opcode, f3 and f7 of four bytes with some values of the other bits, and many raws beside.
func sweep(seed uint64, do func(raw uint32)) {
	r := random(seed)
	for opcode := uint32(3); opcode < 128; opcode += 4 {
		for f3 := range uint32(8) {
			for f7 := range uint32(128) {
				code := opcode | f3<<12 | f7<<25
				for _, rest := range []uint32{0, 0x01ff8f80, r.Uint32(), r.Uint32(), r.Uint32() & r.Uint32()} {
					do(code | rest&0x01ff8f80)
				}
			}
		}
	}
	for range 200_000 {
		do(r.Uint32() | 3)
	}
}

// TestP5_2Sweep: every opcode, f3 and f7 is what the model says.
func TestP5_2Sweep(t *testing.T) {
	legal, none := 0, 0
	sweep(8, func(raw uint32) {
		if _, is := asModel(t, raw); is {
			legal++
		} else {
			none++
		}
	})
	if legal < 20_000 || none < 20_000 {
		t.Errorf("only %d legal and %d illegal raws were compared: the test has grown idle", legal, none)
	}
}
