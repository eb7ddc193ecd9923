package arith

// wordBytes is how many bytes a word has.
const wordBytes = 8

// Take is the number whose bytes these are, the lowest first.
func Take(b []byte) uint64 {
	v := uint64(0)
	for i := range min(len(b), wordBytes) {
		v |= uint64(b[i]) << (8 * i)
	}
	return v
}

// Put is the lower bytes of a number, the lowest first.
func Put(v uint64, size int) []byte {
	b := make([]byte, max(0, min(size, wordBytes)))
	for i := range len(b) {
		b[i] = byte(v >> (8 * i))
	}
	return b
}
