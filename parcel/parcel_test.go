package parcel_test

import (
	"slices"
	"testing"

	"anvil/api"
	"anvil/decode"
	"anvil/parcel"
)

// plain is a record without what does not count.
func plain(in api.Instr) api.Instr {
	in.Len, in.Raw = 0, 0
	return in
}

// TestOfAll: of every record that parcels have, all of these.
func TestOfAll(t *testing.T) {
	all := map[api.Instr][]uint16{}
	for p := range 1 << 16 {
		if in := decode.Decode(uint32(p)); in.Len == 2 && in.Op != api.OpIllegal {
			all[plain(in)] = append(all[plain(in)], uint16(p))
		}
	}
	several := 0
	for in, want := range all {
		if len(want) > 1 {
			several++
		}
		in.Len, in.Raw = 4, 0xdeadbeef
		if got := parcel.Of(in); !slices.Equal(got, want) {
			t.Errorf("Of(%+v) = %#04x, want %#04x", in, got, want)
		}
	}
	if want := 64 + 3 + 31; several != want { // c.nop and c.li, c.addi and c.addi16sp, c.mv and c.add
		t.Errorf("%d records have several parcels, want %d", several, want)
	}
}

// TestOfNone: records that no parcel says.
func TestOfNone(t *testing.T) {
	for _, in := range []api.Instr{
		{}, {Op: -1}, {Op: api.Ops}, {Op: api.OpEcall}, {Op: api.OpMul, Rd: 8, Rs1: 8, Rs2: 8}, {Op: api.OpAddi, Rd: 8, Rs1: 2}, {Op: api.OpAddi, Rd: 32, Rs1: 32, Imm: 1}, {Op: api.OpAddi, Imm: 1 << 32}, {Op: api.OpAddi, Aq: true}, {Op: api.OpEbreak, Rs2: 1},
	} {
		if got := parcel.Of(in); len(got) != 0 {
			t.Errorf("Of(%+v) = %#04x, want none", in, got)
		}
	}
}
