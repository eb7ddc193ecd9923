package gdb_test

import (
	"fmt"
	"testing"

	"anvil/gdb"
)

// TestSection17_3Types: types 0 to 4 are set and taken away, the other digits answered empty.
func TestSection17_3Types(t *testing.T) {
	for kind := range 10 {
		want := "OK"
		if kind > 4 {
			want = ""
		}
		s := made(t, little())
		asked(t, s, want, fmt.Sprintf("Z%d,80000000,2", kind), fmt.Sprintf("Z%d,80000000,2", kind), fmt.Sprintf("z%d,80000000,2", kind), fmt.Sprintf("z%d,80000000,2", kind))
	}
}

// TestSection17_3Lengths: a breakpoint's length may be anything, a watch has 1 to 8 bytes; taking away what cannot be set is OK.
func TestSection17_3Lengths(t *testing.T) {
	for kind := range 5 {
		for _, k := range []string{"0", "1", "2", "7", "8", "9", "a", "10", "100", "100000001", "1000000000000001", "7fffffffffffffff", "8000000000000000", "ffffffffffffffff", "0000000000000000", "0000000000000008", "0000000000000009"} {
			want := "OK"
			if n := numeral(k); kind >= 2 && (n < 1 || n > 8) {
				want = "E02"
			}
			for _, at := range []string{"0", "80000004", "ffffffffffffffff"} {
				s := made(t, little())
				asked(t, s, want, fmt.Sprintf("Z%d,%s,%s", kind, at, k))
				asked(t, s, "OK", fmt.Sprintf("z%d,%s,%s", kind, at, k))
			}
		}
	}
}

// full is a stub with MaxStops stops, of all types.
func full(t *testing.T) *gdb.Stub {
	t.Helper()
	s := made(t, little())
	for i := range maxStops {
		ask(t, s, fmt.Sprintf("Z%d,%x,%x", i%5, 0x1000+i, i%8+1), "OK")
	}
	return s
}

// TestSection17_3MostStops: MaxStops of them and one more; the same twice is no other; one taken away makes room for just one.
func TestSection17_3MostStops(t *testing.T) {
	s := full(t)
	asked(t, s, "E02", "Z0,0,0", "Z1,0,0", "Z2,0,1", "Z3,0,1", "Z4,0,1", "Z4,0,9", "Z1,1000,1", "Z0,1001,1", "Z0,1000,2")
	for i := range maxStops {
		asked(t, s, "OK", fmt.Sprintf("Z%d,%x,%x", i%5, 0x1000+i, i%8+1))
	}
	asked(t, s, "E02", "Z0,0,0")
	asked(t, s, "OK", "z0,0,0", "z1,1000,1", "z0,1000,2")
	asked(t, s, "E02", "Z0,0,0")
	for i := range maxStops {
		stop := fmt.Sprintf("%d,%x,%x", i%5, 0x1000+i, i%8+1)
		asked(t, s, "OK", "z"+stop, "z"+stop, "Z0,0,0", "Z0,0,0")
		asked(t, s, "E02", "Z"+stop, "Z0,0,1")
		asked(t, s, "OK", "z0,0,0", "Z"+stop)
		asked(t, s, "E02", "Z0,0,0")
	}
}

// TestSection17_3Refused: what is refused is not set: it stops nothing, and takes no room.
func TestSection17_3Refused(t *testing.T) {
	s := made(t, little())
	asked(t, s, "E02", "Z2,80000004,0", "Z4,80000004,9")
	asked(t, s, "", "Z5,80000004,2", "Z9,80000004,2")
	asked(t, s, "E01", "Z0,80000004", "Z0,80000004,2;", "Z00,80000004,2")
	for i := range maxStops {
		ask(t, s, fmt.Sprintf("Z0,%x,0", 0x1000+i), "OK")
	}
	asked(t, s, "E02", "Z0,80000004,2")
	asked(t, s, "", "z5,1000,0")
	asked(t, s, "E01", "z0,1000", "z0,1000,0,")
	asked(t, s, "E02", "Z0,80000004,2")
	ask(t, s, "c", "S02")
}

// TestSection17_3Apart: a stop is its type, place and length together.
func TestSection17_3Apart(t *testing.T) {
	all := []string{"0,80000004,2", "0,80000004,4", "1,80000004,2", "0,0080000004,0"}
	for i, kept := range all {
		s := made(t, little())
		for _, one := range all {
			ask(t, s, "Z"+one, "OK")
		}
		ask(t, s, "c", "S05")
		stands(t, s, 2, ram+4)
		for j, one := range all {
			if j != i {
				ask(t, s, "z"+one, "OK")
			}
		}
		ask(t, s, "c", "S05")
		stands(t, s, 3, ram+4)
		asked(t, s, "OK", "z0,80000004,1", "z1,80000004,4", "z2,80000004,2", "z0,80000002,2", "z0,80000006,0")
		ask(t, s, "c", "S05")
		stands(t, s, 4, ram+4)
		ask(t, s, "z"+kept, "OK")
		ask(t, s, "c", "S02")
	}
}

// TestSection17_3Digits: a stop is the same however its numbers are written.
func TestSection17_3Digits(t *testing.T) {
	s := made(t, little())
	for _, stop := range []string{"0,8000000a,b", "0,8000000A,B", "0,000000008000000a,000000000000000B", "0,08000000a,0b"} {
		asked(t, s, "OK", "Z"+stop)
	}
	for i := range maxStops - 1 {
		asked(t, s, "OK", fmt.Sprintf("Z0,%x,0", 0x1000+i))
	}
	asked(t, s, "E02", "Z0,0,0")
	asked(t, s, "OK", "z0,08000000A,00b", "Z0,0,0")
}

// TestP17_11Stops: behind an OK of Z, z of the same and then Z again are OK, also where there is room for no other.
func TestP17_11Stops(t *testing.T) {
	for _, before := range []int{0, 1, maxStops - 1} {
		for _, stop := range []string{"0,0,0", "1,ffffffffffffffff,ffffffffffffffff", "2,80000000,1", "3,80000000,8", "4,ffffffffffffffff,8"} {
			s := made(t, little())
			for i := range before {
				ask(t, s, fmt.Sprintf("Z1,%x,0", 0x1000+i), "OK")
			}
			for range 3 {
				asked(t, s, "OK", "Z"+stop, "z"+stop, "Z"+stop)
			}
		}
	}
}
