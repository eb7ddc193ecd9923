package encode_test

import (
	"testing"

	"anvil/api"
	"anvil/decode"
	"anvil/encode"
)

// TestE2Fields: every operation with all its fields, at random.
func TestE2Fields(t *testing.T) {
	r := random(10)
	for _, o := range operations {
		for range 200 {
			if e := asModel(t, anyRecord(r, o)); e != api.OK {
				t.Fatalf("the model refuses a record of operation %d", o.op)
			}
		}
	}
}

// TestE2Bits: each bit of each field alone stands at its own place.
func TestE2Bits(t *testing.T) {
	for _, o := range operations {
		seen := map[uint32]string{}
		for _, field := range allFields {
			if !o.has(field) {
				continue
			}
			for k := range 32 {
				in := with(api.Instr{Op: o.op}, field, 1<<k)
				if field == "imm" && 1<<k > bounds[o.letters][1] {
					in.Imm = -1 << k
				}
				if with(in, field, 0) == in || modelCheck(in) != api.OK {
					continue
				}
				raw, e := encode.Encode(in)
				bits := raw ^ o.bits
				if e != api.OK || bits == 0 || bits != modelEncode(in)^o.bits {
					t.Errorf("E2: Encode(%+v) = %#08x, %d, want %#08x", in, raw, e, modelEncode(in))
				}
				if other, is := seen[bits]; is {
					t.Errorf("E2: operation %d has a bit of %s where one of %s is", o.op, field, other)
				}
				seen[bits] = field
			}
		}
	}
}

// TestE2One: no other instruction of 32 bits that is one bit away has the record.
func TestE2One(t *testing.T) {
	r := random(11)
	for _, o := range operations {
		for range 20 {
			in := anyRecord(r, o)
			raw, _ := encode.Encode(in)
			for k := range 32 {
				if near := raw ^ 1<<k; near%4 == 3 && plain(decode.Decode(near)) == in {
					t.Errorf("E2: %#08x and %#08x are both %+v", raw, near, in)
				}
			}
		}
	}
}

// TestE5Records: what there is of each operation is read back as it was.
func TestE5Records(t *testing.T) {
	r := random(12)
	shorts := 0
	for _, o := range operations {
		for range 300 {
			if thereAndBack(t, anyRecord(r, o)) {
				shorts++
			}
		}
	}
	for _, in := range shortRecords {
		if !thereAndBack(t, in) {
			t.Errorf("E5: %+v has a parcel, but Compress tells none", in)
		}
	}
	if shorts < 30 {
		t.Errorf("only %d random records had parcels: the test has grown idle", shorts)
	}
}

// TestE5Numbers: every number of the shorter immediates, and many of the longer ones, is read back.
func TestE5Numbers(t *testing.T) {
	for _, op := range []int{api.OpJalr, api.OpBgeu, api.OpSw, api.OpCsrrci, api.OpFence, api.OpSrai, api.OpSraiw, api.OpJal, api.OpLui} {
		o, _ := known(op)
		least, greatest, step := o.numbers()
		if op == api.OpJal || op == api.OpLui {
			step *= 211
		}
		for n := least; n <= greatest; n += step {
			thereAndBack(t, api.Instr{Op: op, Imm: n})
		}
	}
}

// backAndThere checks E6 of a raw of 32 bits; it answers whether that is an instruction.
func backAndThere(t *testing.T, raw uint32) bool {
	t.Helper()
	in := decode.Decode(raw)
	if in.Op == api.OpIllegal {
		return false
	}
	if e := encode.Check(in); e != api.OK {
		t.Errorf("E6: Check(%+v) = %d, want OK", in, e)
	}
	if got, e := encode.Encode(in); got != raw || e != api.OK {
		t.Errorf("E6: Encode of the record of %#08x is %#08x, %d", raw, got, e)
	}
	return true
}

// TestE6Long: raws of every opcode, f3 and f7, and random ones.
func TestE6Long(t *testing.T) {
	r := random(13)
	legal := 0
	for opcode := uint32(3); opcode < 128; opcode += 4 {
		for f3 := range uint32(8) {
			for f7 := range uint32(128) {
				fields := r.Uint32() & 0x01ff8f80
				for _, raw := range []uint32{fields, 0, 0x01ff8f80, fields &^ 0x01f00000} {
					if backAndThere(t, raw|f7<<25|f3<<12|opcode) {
						legal++
					}
				}
			}
		}
	}
	for _, raw := range []uint32{0x00000073, 0x00100073, 0x30200073, 0x10500073} {
		if !backAndThere(t, raw) {
			t.Errorf("E6: %#08x is no instruction", raw)
		}
		for k := 2; k < 32; k++ {
			backAndThere(t, raw^1<<k)
		}
	}
	if legal < 20_000 {
		t.Errorf("only %d raws were legal: the test has grown idle", legal)
	}
}

// TestE6Parcels: every parcel's record has a least parcel that is not above it and means the same.
func TestE6Parcels(t *testing.T) {
	legal, lower := 0, 0
	for p := range 1 << 16 {
		in := decode.Decode(uint32(p))
		if p%4 == 3 || in.Op == api.OpIllegal {
			continue
		}
		legal++
		if e := encode.Check(in); e != api.OK {
			t.Fatalf("E6: Check(%+v) = %d, want OK", in, e)
		}
		least, ok := encode.Compress(in)
		if !ok || int(least) > p {
			t.Fatalf("E6: Compress of the record of %#04x is %#04x, %v", p, least, ok)
		}
		if int(least) < p {
			lower++
		}
		again := decode.Decode(uint32(least))
		again.Raw = uint32(p)
		if again != in {
			t.Fatalf("E6: %#04x and its least parcel %#04x are not read alike", p, least)
		}
		raw, e := encode.Encode(in)
		first, _ := decode.Expand(uint16(p))
		second, _ := decode.Expand(least)
		if e != api.OK || first != raw || second != raw {
			t.Fatalf("E6: %#04x stands for %#08x, %#04x for %#08x, Encode is %#08x", p, first, least, second, raw)
		}
	}
	if legal < 30_000 || lower < 50 {
		t.Errorf("only %d parcels, %d of them not the least: the test has grown idle", legal, lower)
	}
}
