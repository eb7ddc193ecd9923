// Package arith: integer operations at every corner: see DOC.md and doc/01-arith.md.
package arith

// Bits is the bits lo to hi of v as a number; 0, if there are no such bits.
func Bits(v uint64, hi, lo int) uint64 {
	if lo < 0 || hi > 63 || hi < lo {
		return 0
	}
	part := uint64(0)
	for i := range hi - lo + 1 {
		part |= bit(v, lo+i) << i
	}
	return part
}

// Extend is the lower bits of v, the highest of them repeated upwards.
func Extend(v uint64, bits int) uint64 {
	if bits <= 0 {
		return 0
	}
	if bits >= 64 {
		return v
	}
	word := uint64(0)
	for i := range 64 {
		word |= bit(v, min(i, bits-1)) << i
	}
	return word
}

// bit is bit i of v, as 0 or 1.
func bit(v uint64, i int) uint64 { return v >> i & 1 }

// half is the lower half of a word, as it is.
func half(v uint64) uint64 { return v & 0xffffffff }

// widen is the lower half of a word widened. It is Extend(v, 32) without the way through the bits, since every 32 bit operation comes by here.
func widen(v uint64) uint64 { return uint64(int64(int32(v))) }
