package save_test

import (
	"bytes"
	"testing"

	"anvil/api"
)

// turned is a snapshot with bits turned from a place on (counted from the lowest bit of the first byte); a bit beyond its end is none.
func turned(b []byte, from int, pattern uint32) []byte {
	b = bytes.Clone(b)
	for i := range 32 {
		if at := from + i; pattern>>i&1 == 1 && at < 8*len(b) {
			b[at/8] ^= 1 << (at % 8)
		}
	}
	return b
}

// isTold: Load must tell that bits were turned: in the head by its form, elsewhere by the sum.
func isTold(t *testing.T, b []byte, from int, pattern uint32) {
	t.Helper()
	spoilt := turned(b, from, pattern)
	want := api.ErrSum
	if !bytes.Equal(spoilt[:8], b[:8]) {
		want = api.ErrShape
	}
	refused(t, "P16.5: bits turned", spoilt, want)
	if t.Failed() {
		t.Fatalf("P16.5: the bits %#x from %d on, of %d bytes", pattern, from, len(b))
	}
}

// TestP16_5Bits: every single bit of snapshots turned.
func TestP16_5Bits(t *testing.T) {
	some := rich()
	some.Bus.Output = bytes.Repeat([]byte("output"), 100)
	for _, w := range []api.Whole{least(), rich(), some} {
		b := saved(t, w)
		for n := range 8 * len(b) {
			isTold(t, b, n, 1)
		}
	}
}

// TestP16_5Runs: at every place a run of each length up to 32 bits, its ends alone turned, and all of it.
func TestP16_5Runs(t *testing.T) {
	b := saved(t, least())
	for from := range 8 * len(b) {
		for length := 1; length <= 32 && from+length <= 8*len(b); length++ {
			isTold(t, b, from, 1|1<<(length-1))
			isTold(t, b, from, 1<<length-1)
		}
	}
}

// TestP16_5Any: any bits within 32 of snapshots of any kind, the longest too.
func TestP16_5Any(t *testing.T) {
	r := random(8)
	all := [][]byte{saved(t, rich()), saved(t, greatest())}
	for range 100 {
		all = append(all, saved(t, anyWhole(r)))
	}
	for _, b := range all {
		for range 100 {
			isTold(t, b, r.IntN(8*len(b)), r.Uint32()|1)
		}
		for n := range 40 {
			isTold(t, b, 8*len(b)-1-n, r.Uint32()|1)
		}
	}
}

// TestP16_5Cut: bytes cut off at the end, as many as there are.
func TestP16_5Cut(t *testing.T) {
	r := random(9)
	for range 20 {
		b := saved(t, anyWhole(r))
		for n := range len(b) {
			if n > 600 && n < len(b)-50 && n%97 != 0 {
				continue
			}
			want := api.ErrSum
			if n < 12 {
				want = api.ErrShape
			}
			refused(t, "P16.5: a beginning", b[:n], want)
		}
	}
}
