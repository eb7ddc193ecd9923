package decode_test

import (
	"strings"
	"testing"

	"anvil/api"
	"anvil/decode"
)

// unnamed is a record without its Raw.
func unnamed(in api.Instr) api.Instr {
	in.Raw = 0
	return in
}

// TestP5_5Back: of every legal raw the record without Raw says the raw, so no other has that record.
func TestP5_5Back(t *testing.T) {
	legal := 0
	sweep(20, func(raw uint32) {
		in := decode.Decode(raw)
		if in.Op == api.OpIllegal {
			return
		}
		legal++
		if from := back(unnamed(in)); from != raw {
			t.Fatalf("P5.5: the record %+v of %#08x says %#08x", in, raw, from)
		}
	})
	if legal < 20_000 {
		t.Errorf("only %d raws were legal: the test has grown idle", legal)
	}
}

// TestP5_5Neighbours: a raw with one bit changed has another record, if it has one.
func TestP5_5Neighbours(t *testing.T) {
	r := random(21)
	met := 0
	for _, one := range allRules {
		for range 100 {
			raw := back(anyRecord(r, one))
			in := unnamed(decode.Decode(raw))
			for k := 2; k < 32; k++ {
				near := decode.Decode(raw ^ 1<<k)
				if near.Op == api.OpIllegal {
					continue
				}
				met++
				if unnamed(near) == in {
					t.Fatalf("P5.5: %#08x and %#08x have one record, %+v", raw, raw^1<<k, in)
				}
			}
		}
	}
	if met < 50_000 {
		t.Errorf("only %d pairs were compared: the test has grown idle", met)
	}
}

// TestP5_5Many: among many legal raws no two have one record.
func TestP5_5Many(t *testing.T) {
	r := random(22)
	seen := map[api.Instr]uint32{}
	for _, one := range allRules {
		for range 3000 {
			raw := back(anyRecord(r, one))
			in := unnamed(decode.Decode(raw))
			if first, is := seen[in]; is && first != raw {
				t.Fatalf("P5.5: %#08x and %#08x have one record, %+v", first, raw, in)
			}
			seen[in] = raw
		}
	}
}

// TestP5_5Fields: every bit of a raw that does not tell the operation stands in a field, so none is lost.
func TestP5_5Fields(t *testing.T) {
	for _, one := range allRules {
		held := uint32(0)
		for _, name := range strings.Fields(one.fields) {
			held |= put(-1, name)
		}
		for k := 2; k < 32; k++ {
			near := decode.Decode(one.code() ^ 1<<k)
			if held>>k&1 == 1 && (near.Op != one.op || unnamed(near) == unnamed(decode.Decode(one.code()))) {
				t.Errorf("P5.5: bit %d of operation %d is lost in %+v", k, one.op, near)
			}
			if held>>k&1 == 0 && near.Op == one.op {
				t.Errorf("P5.5: bit %d does not count for operation %d", k, one.op)
			}
		}
	}
}
