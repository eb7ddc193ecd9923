package arith

import "math/bits"

// Wide is the product of two words: the upper half, the lower half.
func Wide(a, b uint64) (uint64, uint64) { return bits.Mul64(a, b) }

// WideSigned is the product of two signed words.
func WideSigned(a, b uint64) (uint64, uint64) {
	hi, lo := Wide(a, b)
	return hi - excess(a, b) - excess(b, a), lo
}

// WideMixed is the product of a signed word and one as it is.
func WideMixed(a, b uint64) (uint64, uint64) {
	hi, lo := Wide(a, b)
	return hi - excess(a, b), lo
}

// excess is what the upper half of a plain product has too much when v was meant as a signed number: a negative v was taken for v + 2^64, so the product is greater by other times 2^64.
func excess(v, other uint64) uint64 {
	if int64(v) < 0 {
		return other
	}
	return 0
}
