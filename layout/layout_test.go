package layout_test

import (
	"testing"

	"anvil/api"
	"anvil/layout"
)

// TestLay: each bit of a number goes where its piece says, and nothing else does.
func TestLay(t *testing.T) {
	pieces := layout.Layout{{12, 12, 31}, {11, 11, 7}, {10, 5, 25}, {4, 1, 8}} // a branch's
	for bit, want := range []uint32{0, 1 << 8, 1 << 9, 1 << 10, 1 << 11, 1 << 25, 1 << 26, 1 << 27, 1 << 28, 1 << 29, 1 << 30, 1 << 7, 1 << 31, 0, 0} {
		if got := pieces.Lay(1 << bit); got != want {
			t.Errorf("bit %d is laid %#08x, want %#08x", bit, got, want)
		}
	}
	if got := pieces.Lay(-1); got != 0xfe000f80 {
		t.Errorf("-1 is laid %#08x", got)
	}
	if got := layout.Layout(nil).Lay(-1); got != 0 {
		t.Errorf("nowhere is laid %#08x", got)
	}
	if got := (layout.Layout{{31, 0, 0}}).Lay(-2); got != 0xfffffffe {
		t.Errorf("a whole word is laid %#08x", got)
	}
}

// TestFields: a record's fields, each in its place.
func TestFields(t *testing.T) {
	fields := layout.Fields{Rd: layout.Layout{{4, 0, 7}}, Rs1: layout.Layout{{4, 0, 15}}, Rs2: layout.Layout{{4, 0, 20}}, Imm: layout.Layout{{6, 0, 25}}}
	for _, c := range []struct {
		in   api.Instr
		want uint32
	}{
		{api.Instr{Rd: 31}, 0x00000f80},
		{api.Instr{Rs1: 31}, 0x000f8000},
		{api.Instr{Rs2: 31}, 0x01f00000},
		{api.Instr{Imm: 127}, 0xfe000000},
		{api.Instr{Rd: 1, Rs1: 2, Rs2: 3, Imm: 4}, 0x08310080},
		{api.Instr{Op: 5, Aq: true, Rl: true, Len: 4, Raw: 0xffffffff}, 0},
	} {
		if got := fields.Lay(c.in); got != c.want {
			t.Errorf("%+v is laid %#08x, want %#08x", c.in, got, c.want)
		}
	}
}
