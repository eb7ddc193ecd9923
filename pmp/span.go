package pmp

import (
	"math"
	"math/bits"
)

// An Addr counts in units of four bytes.
const (
	unitShift = 2
	unitBytes = 1 << unitShift
)

// span is a range of addresses that is not empty. It has its last address, not its end: the end of a range of every address would be no uint64.
type span struct {
	first, last uint64
}

// span is what an entry's range is; false: it is empty.
func (e *entries) span(i int) (span, bool) {
	switch e[i].kind() {
	case kindTor:
		return e.tor(i)
	case kindNa4:
		first := e[i].addr << unitShift
		return span{first, first + unitBytes - 1}, true
	case kindNapot:
		return napot(e[i].addr), true
	}
	return span{}, false
}

// tor is a range up to the entry's Addr, from that of the entry before it on, whatever else that entry is.
func (e *entries) tor(i int) (span, bool) {
	from := uint64(0)
	if i > 0 {
		from = e[i-1].addr
	}
	if from >= e[i].addr {
		return span{}, false
	}
	return span{from << unitShift, e[i].addr<<unitShift - 1}, true
}

// napot is an aligned range of a power of two of bytes: the Addr's trailing ones say which.
func napot(addr uint64) span {
	ones := bits.TrailingZeros64(^addr)
	if ones == addrWidth {
		return span{0, math.MaxUint64}
	}
	inside := uint64(1)<<(ones+1+unitShift) - 1
	first := addr << unitShift &^ inside
	return span{first, first | inside}
}

// match is the lowest entry whose range has any of an access's bytes, and whether it has all of them.
func (e *entries) match(addr uint64, size int) (int, bool) {
	for i := range count {
		s, some := e.span(i)
		if !some {
			continue
		}
		if held := s.held(addr, size); held > 0 {
			return i, held == size
		}
	}
	return none, false
}

// held is how many of an access's bytes the range has. They are asked one by one, since an access may wrap round behind the last address.
func (s span) held(addr uint64, size int) int {
	n := 0
	for k := range size {
		if at := addr + uint64(k); s.first <= at && at <= s.last {
			n++
		}
	}
	return n
}
