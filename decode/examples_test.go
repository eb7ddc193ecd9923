package decode_test

import (
	"testing"

	"anvil/api"
	"anvil/decode"
)

// The examples of section 5.4, by their numbers.

func TestExample1OfDecode(t *testing.T) {
	long(t, 0x00000013, api.Instr{Op: api.OpAddi})
	long(t, 0xfff00093, api.Instr{Op: api.OpAddi, Rd: 1, Imm: -1})
	long(t, 0xfe000ee3, api.Instr{Op: api.OpBeq, Imm: -4})
	long(t, 0x800000ef, api.Instr{Op: api.OpJal, Rd: 1, Imm: -1048576})
}

func TestExample2OfDecode(t *testing.T) {
	long(t, 0x00001537, api.Instr{Op: api.OpLui, Rd: 10, Imm: 4096})
	long(t, 0x80000537, api.Instr{Op: api.OpLui, Rd: 10, Imm: -2147483648})
}

func TestExample3OfDecode(t *testing.T) {
	long(t, 0x43f55513, api.Instr{Op: api.OpSrai, Rd: 10, Rs1: 10, Imm: 63})
	noLong(t, 0x43f5551b)
	long(t, 0x41f5551b, api.Instr{Op: api.OpSraiw, Rd: 10, Rs1: 10, Imm: 31})
}

func TestExample4OfDecode(t *testing.T) {
	long(t, 0x30002573, api.Instr{Op: api.OpCsrrs, Rd: 10, Imm: 0x300})
	decodes(t, "5.4", 0x0000007f, api.Instr{Len: 4, Raw: 0x7f})
	decodes(t, "5.4", 0xffffffff, api.Instr{Len: 4, Raw: 0xffffffff})
	decodes(t, "5.4", 0x00000000, api.Instr{Len: 2})
}

func TestExample5OfDecode(t *testing.T) {
	long(t, 0x1005a52f, api.Instr{Op: api.OpLrW, Rd: 10, Rs1: 11})
	noLong(t, 0x1015a52f)
	long(t, 0x0e55b52f, api.Instr{Op: api.OpAmoswapD, Rd: 10, Rs1: 11, Rs2: 5, Aq: true, Rl: true})
}

func TestExample6OfDecode(t *testing.T) {
	expands(t, 0x0001, api.Instr{Op: api.OpAddi})
	expands(t, 0x4501, api.Instr{Op: api.OpAddi, Rd: 10})
	expands(t, 0x8082, api.Instr{Op: api.OpJalr, Rs1: 1})
	expands(t, 0x9002, api.Instr{Op: api.OpEbreak})
	expandsToNone(t, 0x8002)
	expandsToNone(t, 0x6101)
	expands(t, 0x7139, api.Instr{Op: api.OpAddi, Rd: 2, Rs1: 2, Imm: -64})
	expands(t, 0x60a2, api.Instr{Op: api.OpLd, Rd: 1, Rs1: 2, Imm: 8})
}

func TestExample7OfDecode(t *testing.T) {
	decodes(t, "5.4", 0xabcd4501, api.Instr{Op: api.OpAddi, Rd: 10, Len: 2, Raw: 0x4501})
	decodes(t, "5.4", 0x4501, api.Instr{Op: api.OpAddi, Rd: 10, Len: 2, Raw: 0x4501})
	if e, ok := decode.Expand(0x4501); e != 0x00000513 || !ok {
		t.Errorf("5.4: Expand(0x4501) = %#08x, %v", e, ok)
	}
	expandsToNone(t, 0x4503)
}

func TestExample8OfDecode(t *testing.T) {
	long(t, 0x0ff0000f, api.Instr{Op: api.OpFence, Imm: 255})
	long(t, 0x8330108f, api.Instr{Op: api.OpFenceI, Rd: 1, Imm: 0x833})
	noLong(t, 0x0ff0f08f)
}
