package save

// turned is what the lowest bit turns, where it leaves the sum.
const turned = 0xedb88320

// The sum moves by four bits at once.
const (
	moved    = 4
	lowMoved = 1<<moved - 1
)

// sum is the 32 bit cyclic check of bytes.
func sum(b []byte) uint32 {
	turns := turnings()
	word := ^uint32(0)
	for _, v := range b {
		word ^= uint32(v)
		word = word>>moved ^ turns[word&lowMoved]
		word = word>>moved ^ turns[word&lowMoved]
	}
	return ^word
}

// turnings is what becomes of each four lowest bits while they leave the sum one by one. It hangs on them alone, so it need not be worked out at every byte.
func turnings() [1 << moved]uint32 {
	var all [1 << moved]uint32
	for i := range all {
		all[i] = uint32(i)
		for range moved {
			all[i] = step(all[i])
		}
	}
	return all
}

// step moves the sum by one bit.
func step(word uint32) uint32 {
	if word&1 == 1 {
		return word>>1 ^ turned
	}
	return word >> 1
}
