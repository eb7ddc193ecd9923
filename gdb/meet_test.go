package gdb

import "testing"

// TestP17_6Meet: two runs of bytes meet just if a byte is in both, where one of them wraps round 2^64 too. (Nothing stands on the bus next to 0, so that no row can tell it.)
func TestP17_6Meet(t *testing.T) {
	met := 0
	for _, base := range []uint64{0, 1, 1 << 63, 0x80000000, 1<<64 - 1, 1<<64 - 8, 1<<64 - 9} {
		for shift := -10; shift <= 10; shift++ {
			a, b := base, base+uint64(shift)
			for aLength := range uint64(9) {
				for bLength := range uint64(9) {
					want := false
					for i := range aLength {
						for j := range bLength {
							want = want || a+i == b+j
						}
					}
					if aLength == 0 || bLength == 0 {
						continue // there are no such watches, and no such accesses
					}
					if is := meet(a, aLength, b, bLength); is != want {
						t.Errorf("P17.6: %d bytes at %#x and %d at %#x: %v", aLength, a, bLength, b, is)
					}
					if want {
						met++
					}
				}
			}
		}
	}
	if met < 3000 {
		t.Errorf("%d pairs meet: too few to tell", met)
	}
}

// TestP17_6Zero: how a watch at 0 would be told, and one at the last address.
func TestP17_6Zero(t *testing.T) {
	for one, want := range map[stop]string{
		{onStore, 0, 1}: "T05watch:0;", {onLoad, 0, 8}: "T05rwatch:0;", {onBoth, 1<<64 - 1, 8}: "T05awatch:ffffffffffffffff;",
	} {
		if text := one.name(); text != want {
			t.Errorf("P17.6: %+v is told as %q, want %q", one, text, want)
		}
	}
}
