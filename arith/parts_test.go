package arith_test

import (
	"bytes"
	"math"
	"math/big"
	"slices"
	"testing"

	"anvil/arith"
)

func wantBits(v uint64, hi, lo int) uint64 {
	if lo < 0 || hi > 63 || hi < lo {
		return 0
	}
	return modulo(new(big.Int).Rsh(plain(v), uint(lo)), hi-lo+1).Uint64()
}

func TestA1Bits(t *testing.T) {
	places := []int{math.MinInt, math.MinInt + 1, math.MaxInt - 1, math.MaxInt, 1 << 32, -1 << 32}
	for i := range 70 {
		places = append(places, i-3)
	}
	for _, v := range edges() {
		for _, hi := range places {
			for _, lo := range places {
				if got, want := arith.Bits(v, hi, lo), wantBits(v, hi, lo); got != want {
					t.Fatalf("A1: Bits(%#x, %d, %d) = %#x, want %#x", v, hi, lo, got, want)
				}
			}
		}
	}
}

func wantExtend(v uint64, bits int) uint64 {
	switch {
	case bits <= 0:
		return 0
	case bits >= 64:
		return v
	}
	return word(signedOf(v, bits))
}

func TestA2Extend(t *testing.T) {
	counts := []int{math.MinInt, math.MaxInt, 1 << 32, -1 << 32, 128}
	for i := range 75 {
		counts = append(counts, i-5)
	}
	for _, v := range edges() {
		for _, bits := range counts {
			if got, want := arith.Extend(v, bits), wantExtend(v, bits); got != want {
				t.Fatalf("A2: Extend(%#x, %d) = %#x, want %#x", v, bits, got, want)
			}
		}
	}
}

func TestA3Take(t *testing.T) {
	long := []byte{0x81, 0x82, 0x03, 0xff, 0x00, 0x7f, 0x80, 0xfe, 0x55, 0xaa, 0x01, 0x99}
	for n := range len(long) + 1 {
		want := new(big.Int)
		for i := range min(n, 8) {
			want.Add(want, new(big.Int).Lsh(big.NewInt(int64(long[i])), uint(8*i)))
		}
		if got := arith.Take(long[:n]); got != want.Uint64() {
			t.Errorf("A3: Take of %d bytes = %#x, want %#x", n, got, want)
		}
	}
	if got := arith.Take(nil); got != 0 {
		t.Errorf("A3: Take(nil) = %#x", got)
	}
	if got := arith.Take([]byte{}); got != 0 {
		t.Errorf("A3: Take of the empty list = %#x", got)
	}
	if got := arith.Take(make([]byte, 1<<20)); got != 0 {
		t.Errorf("A3: Take of many zeros = %#x", got)
	}
}

func TestA3TakeChangesNothing(t *testing.T) {
	room := []byte{1, 2, 3, 4, 5, 6, 7, 8, 9, 10, 11, 12}
	was := slices.Clone(room)
	for n := range len(room) + 1 {
		arith.Take(room[:n])
		if !bytes.Equal(room, was) {
			t.Fatalf("A3: Take of %d bytes changed the list to %v", n, room)
		}
	}
}

func wantPut(v uint64, size int) []byte {
	x, out := plain(v), []byte(nil)
	for range max(0, min(size, 8)) {
		out = append(out, byte(modulo(x, 8).Uint64()))
		x.Rsh(x, 8)
	}
	return out
}

func TestA4Put(t *testing.T) {
	for _, v := range edges() {
		for _, size := range []int{math.MinInt, -9, -1, 0, 1, 2, 3, 4, 5, 6, 7, 8, 9, 16, 1 << 40, math.MaxInt} {
			if got, want := arith.Put(v, size), wantPut(v, size); !bytes.Equal(got, want) {
				t.Fatalf("A4: Put(%#x, %d) = %v, want %v", v, size, got, want)
			}
		}
	}
}

func TestA4ThereAndBack(t *testing.T) {
	for _, v := range edges() {
		if got := arith.Take(arith.Put(v, 8)); got != v {
			t.Errorf("A4: Take(Put(%#x, 8)) = %#x", v, got)
		}
		full := wantPut(v, 8)
		for n := range 9 {
			if got := arith.Put(arith.Take(full[:n]), n); !bytes.Equal(got, full[:n]) {
				t.Errorf("A4: Put(Take(%v), %d) = %v", full[:n], n, got)
			}
		}
	}
}

func TestA4PutIsNewMemory(t *testing.T) {
	for size := range 10 {
		first := arith.Put(ones, size)
		second := arith.Put(ones, size)
		want := wantPut(ones, size)
		room := first[:cap(first)]
		for i := range room {
			room[i] = 0x5a
		}
		if !bytes.Equal(second, want) || !bytes.Equal(arith.Put(ones, size), want) {
			t.Errorf("A4: two answers of Put(.., %d) share memory", size)
		}
	}
}

func TestExamplesOfParts(t *testing.T) {
	for _, c := range []struct {
		got, want uint64
	}{
		{arith.Bits(0xf0, 7, 4), 15},
		{arith.Bits(1, 64, 0), 0},
		{arith.Bits(5, 1, 2), 0},
		{arith.Extend(0x80, 8), 0xffffffffffffff80},
		{arith.Extend(0x17f, 8), 0x7f},
		{arith.Extend(1, 1), ones},
		{arith.Extend(1, 0), 0},
		{arith.Take([]byte{1, 2}), 0x201},
		{uint64(len(arith.Put(1, 9))), 8},
	} {
		if c.got != c.want {
			t.Errorf("1.8: got %#x, want %#x", c.got, c.want)
		}
	}
	if got := arith.Put(0x1234, 1); !bytes.Equal(got, []byte{0x34}) {
		t.Errorf("1.8: Put(0x1234, 1) = %v", got)
	}
}
