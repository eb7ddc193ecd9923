package decode_test

import (
	"sync"
	"testing"

	"anvil/api"
	"anvil/decode"
)

// TestP5_1Length: the low two bits alone tell the length.
func TestP5_1Length(t *testing.T) {
	for low := range uint32(1 << 16) {
		want := 2
		if low%4 == 3 {
			want = 4
		}
		for _, upper := range uppers() {
			if n := decode.Length(upper | low); n != want {
				t.Fatalf("P5.1: Length(%#08x) = %d, want %d", upper|low, n, want)
			}
		}
	}
}

// TestP5_4All: every parcel stands for what the table of section 5.3 says, or for none.
func TestP5_4All(t *testing.T) {
	for p := range 1 << 16 {
		if in, is := modelShort(t, uint16(p)); is {
			expands(t, uint16(p), in)
		} else {
			expandsToNone(t, uint16(p))
		}
	}
}

// TestP5_3All: a parcel's record is that of what it stands for, but for Len and Raw, whatever is above it.
func TestP5_3All(t *testing.T) {
	r := random(30)
	for p := range uint32(1 << 16) {
		if p%4 == 3 {
			continue
		}
		want := illegal(2, p)
		if e, ok := decode.Expand(uint16(p)); ok {
			want = decode.Decode(e)
			want.Len, want.Raw = 2, p
		}
		raw := p | r.Uint32()<<16
		if in := decode.Decode(raw); in != want {
			t.Fatalf("P5.3: Decode(%#08x) = %+v, want %+v", raw, in, want)
		}
	}
}

// TestP5_4Long: what a parcel stands for is an instruction of four bytes.
func TestP5_4Long(t *testing.T) {
	for p := range 1 << 16 {
		e, ok := decode.Expand(uint16(p))
		if !ok {
			continue
		}
		if in := decode.Decode(e); in.Op == api.OpIllegal || in.Len != 4 || in.Aq || in.Rl {
			t.Fatalf("P5.4: Expand(%#04x) = %#08x, which is %+v", p, e, in)
		}
	}
}

// TestP5_4LowBits: the first parcel of four bytes stands for none.
func TestP5_4LowBits(t *testing.T) {
	for p := 3; p < 1<<16; p += 4 {
		expandsToNone(t, uint16(p))
	}
}

// TestP5_4NoRow: what no row names, whatever its other bits are.
func TestP5_4NoRow(t *testing.T) {
	expandsToNone(t, 0)
	for rest := range uint16(1 << 11) {
		for _, c := range []struct{ q, f uint16 }{{0, 1}, {0, 4}, {0, 5}, {2, 1}, {2, 5}} {
			expandsToNone(t, c.f<<13|rest<<2|c.q)
		}
	}
}

// TestP5_4When: each 'when' of the table, where it holds and where it does not.
func TestP5_4When(t *testing.T) {
	for _, c := range []struct {
		p  uint16
		in api.Instr
	}{
		{0x0020, api.Instr{Op: api.OpAddi, Rd: 8, Rs1: 2, Imm: 8}}, {0x0040, api.Instr{Op: api.OpAddi, Rd: 8, Rs1: 2, Imm: 4}}, {0x1000, api.Instr{Op: api.OpAddi, Rd: 8, Rs1: 2, Imm: 32}}, {0x0080, api.Instr{Op: api.OpAddi, Rd: 8, Rs1: 2, Imm: 64}}, {0x000c, api.Instr{}}, {0x001c, api.Instr{}},
		{0x2081, api.Instr{Op: api.OpAddiw, Rd: 1, Rs1: 1}}, {0x3ffd, api.Instr{Op: api.OpAddiw, Rd: 31, Rs1: 31, Imm: -1}}, {0x2001, api.Instr{}}, {0x307d, api.Instr{}},
		{0x6109, api.Instr{Op: api.OpAddi, Rd: 2, Rs1: 2, Imm: 128}}, {0x7101, api.Instr{Op: api.OpAddi, Rd: 2, Rs1: 2, Imm: -512}}, {0x6101, api.Instr{}},
		{0x6085, api.Instr{Op: api.OpLui, Rd: 1, Imm: 4096}}, {0x6185, api.Instr{Op: api.OpLui, Rd: 3, Imm: 4096}}, {0x6005, api.Instr{Op: api.OpLui, Imm: 4096}}, {0x7f81, api.Instr{Op: api.OpLui, Rd: 31, Imm: -131072}}, {0x6081, api.Instr{}}, {0x6001, api.Instr{}}, {0x6181, api.Instr{}},
		{0x8001, api.Instr{Op: api.OpSrli, Rd: 8, Rs1: 8}}, {0x8401, api.Instr{Op: api.OpSrai, Rd: 8, Rs1: 8}}, {0x8801, api.Instr{Op: api.OpAndi, Rd: 8, Rs1: 8}},
		{0x8c01, api.Instr{Op: api.OpSub, Rd: 8, Rs1: 8, Rs2: 8}}, {0x8c21, api.Instr{Op: api.OpXor, Rd: 8, Rs1: 8, Rs2: 8}}, {0x8c41, api.Instr{Op: api.OpOr, Rd: 8, Rs1: 8, Rs2: 8}}, {0x8c61, api.Instr{Op: api.OpAnd, Rd: 8, Rs1: 8, Rs2: 8}},
		{0x9c01, api.Instr{Op: api.OpSubw, Rd: 8, Rs1: 8, Rs2: 8}}, {0x9fbd, api.Instr{Op: api.OpAddw, Rd: 15, Rs1: 15, Rs2: 15}}, {0x9c41, api.Instr{}}, {0x9c61, api.Instr{}}, {0x9ffd, api.Instr{}},
		{0x4082, api.Instr{Op: api.OpLw, Rd: 1, Rs1: 2}}, {0x4002, api.Instr{}}, {0x507e, api.Instr{}},
		{0x6082, api.Instr{Op: api.OpLd, Rd: 1, Rs1: 2}}, {0x6002, api.Instr{}}, {0x707e, api.Instr{}},
		{0x8082, api.Instr{Op: api.OpJalr, Rs1: 1}}, {0x8f82, api.Instr{Op: api.OpJalr, Rs1: 31}}, {0x8002, api.Instr{}},
		{0x8086, api.Instr{Op: api.OpAdd, Rd: 1, Rs2: 1}}, {0x807e, api.Instr{Op: api.OpAdd, Rs2: 31}},
		{0x9002, api.Instr{Op: api.OpEbreak}}, {0x9082, api.Instr{Op: api.OpJalr, Rd: 1, Rs1: 1}}, {0x9f82, api.Instr{Op: api.OpJalr, Rd: 1, Rs1: 31}},
		{0x9086, api.Instr{Op: api.OpAdd, Rd: 1, Rs1: 1, Rs2: 1}}, {0x907e, api.Instr{Op: api.OpAdd, Rs2: 31}},
	} {
		if c.in.Op == api.OpIllegal {
			expandsToNone(t, c.p)
		} else {
			expands(t, c.p, c.in)
		}
	}
}

// TestP5_4Hints: what the ISA calls hints are instructions like others.
func TestP5_4Hints(t *testing.T) {
	for _, c := range []struct {
		p  uint16
		in api.Instr
	}{
		{0x0001, api.Instr{Op: api.OpAddi}}, {0x0005, api.Instr{Op: api.OpAddi, Imm: 1}}, {0x0501, api.Instr{Op: api.OpAddi, Rd: 10, Rs1: 10}},
		{0x4001, api.Instr{Op: api.OpAddi}}, {0x507d, api.Instr{Op: api.OpAddi, Imm: -1}}, {0x7001, api.Instr{Op: api.OpLui, Imm: -131072}},
		{0x8001, api.Instr{Op: api.OpSrli, Rd: 8, Rs1: 8}}, {0x8501, api.Instr{Op: api.OpSrai, Rd: 10, Rs1: 10}},
		{0x0002, api.Instr{Op: api.OpSlli}}, {0x0502, api.Instr{Op: api.OpSlli, Rd: 10, Rs1: 10}}, {0x107e, api.Instr{Op: api.OpSlli, Imm: 63}},
		{0x8006, api.Instr{Op: api.OpAdd, Rs2: 1}}, {0x9006, api.Instr{Op: api.OpAdd, Rs2: 1}}, {0x2501, api.Instr{Op: api.OpAddiw, Rd: 10, Rs1: 10}},
	} {
		expands(t, c.p, c.in)
	}
}

// TestP5_4Numbers: the numbers of the rows at their least and their greatest.
func TestP5_4Numbers(t *testing.T) {
	for _, c := range []struct {
		p  uint16
		in api.Instr
	}{
		{0x1fe0, api.Instr{Op: api.OpAddi, Rd: 8, Rs1: 2, Imm: 1020}}, {0x5c60, api.Instr{Op: api.OpLw, Rd: 8, Rs1: 8, Imm: 124}}, {0x7c60, api.Instr{Op: api.OpLd, Rd: 8, Rs1: 8, Imm: 248}},
		{0xdc60, api.Instr{Op: api.OpSw, Rs1: 8, Rs2: 8, Imm: 124}}, {0xfc60, api.Instr{Op: api.OpSd, Rs1: 8, Rs2: 8, Imm: 248}},
		{0x1501, api.Instr{Op: api.OpAddi, Rd: 10, Rs1: 10, Imm: -32}}, {0x057d, api.Instr{Op: api.OpAddi, Rd: 10, Rs1: 10, Imm: 31}}, {0x3501, api.Instr{Op: api.OpAddiw, Rd: 10, Rs1: 10, Imm: -32}}, {0x5501, api.Instr{Op: api.OpAddi, Rd: 10, Imm: -32}},
		{0x617d, api.Instr{Op: api.OpAddi, Rd: 2, Rs1: 2, Imm: 496}}, {0x657d, api.Instr{Op: api.OpLui, Rd: 10, Imm: 126976}}, {0x757d, api.Instr{Op: api.OpLui, Rd: 10, Imm: -4096}},
		{0x907d, api.Instr{Op: api.OpSrli, Rd: 8, Rs1: 8, Imm: 63}}, {0x9401, api.Instr{Op: api.OpSrai, Rd: 8, Rs1: 8, Imm: 32}}, {0x847d, api.Instr{Op: api.OpSrai, Rd: 8, Rs1: 8, Imm: 31}}, {0x9801, api.Instr{Op: api.OpAndi, Rd: 8, Rs1: 8, Imm: -32}},
		{0xb001, api.Instr{Op: api.OpJal, Imm: -2048}}, {0xaffd, api.Instr{Op: api.OpJal, Imm: 2046}}, {0xd001, api.Instr{Op: api.OpBeq, Rs1: 8, Imm: -256}}, {0xec7d, api.Instr{Op: api.OpBne, Rs1: 8, Imm: 254}},
		{0x1502, api.Instr{Op: api.OpSlli, Rd: 10, Rs1: 10, Imm: 32}}, {0x557e, api.Instr{Op: api.OpLw, Rd: 10, Rs1: 2, Imm: 252}}, {0x757e, api.Instr{Op: api.OpLd, Rd: 10, Rs1: 2, Imm: 504}},
		{0xdf82, api.Instr{Op: api.OpSw, Rs1: 2, Imm: 252}}, {0xff82, api.Instr{Op: api.OpSd, Rs1: 2, Imm: 504}},
	} {
		expands(t, c.p, c.in)
	}
}

// TestRule4Decode: what is told of bits hangs on nothing else, so it is the same in any order and in many goroutines at once.
func TestRule4Decode(t *testing.T) {
	var first [1 << 16]api.Instr
	for p := range first {
		first[p] = decode.Decode(uint32(p))
	}
	var wait sync.WaitGroup
	for range 4 {
		wait.Go(func() {
			for p := len(first) - 1; p >= 0; p-- {
				if in := decode.Decode(uint32(p)); in != first[p] {
					t.Errorf("Decode(%#08x) = %+v, and %+v before", p, in, first[p])
				}
			}
		})
	}
	wait.Wait()
}
