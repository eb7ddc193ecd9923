package save

import (
	"hash/crc32"
	"math/rand/v2"
	"testing"
)

// byBits is the sum as section 16.2 says it, bit by bit.
func byBits(b []byte) uint32 {
	word := uint32(0xffffffff)
	for _, v := range b {
		word ^= uint32(v)
		for range 8 {
			if word%2 == 1 {
				word = word/2 ^ 0xEDB88320
			} else {
				word /= 2
			}
		}
	}
	return word ^ 0xffffffff
}

func TestSection16_2Sum(t *testing.T) {
	for text, want := range map[string]uint32{"123456789": 0xCBF43926, "": 0, "\x00": 0xD202EF8D, "\xff\xff\xff\xff": 0xFFFFFFFF, "a": 0xE8B7BE43} {
		if v := sum([]byte(text)); v != want {
			t.Errorf("16.2: the sum of %q is %#x, want %#x", text, v, want)
		}
	}
}

func TestSection16_2SumOfAny(t *testing.T) {
	r := rand.New(rand.NewPCG(1, 16))
	for n := range 600 {
		b := make([]byte, n)
		for i := range b {
			b[i] = byte(r.Uint32())
		}
		if v := sum(b); v != byBits(b) || v != crc32.ChecksumIEEE(b) {
			t.Fatalf("16.2: the sum of % x is %#x, want %#x", b, v, byBits(b))
		}
	}
	for v := range 1 << 16 {
		if b := []byte{byte(v), byte(v >> 8)}; sum(b) != byBits(b) {
			t.Fatalf("16.2: the sum of % x is %#x, want %#x", b, sum(b), byBits(b))
		}
	}
}
