package watch

import "anvil/api"

// The bytes of the widths, of which the widest access has doubleBytes.
const (
	byteBytes   = 1
	parcelBytes = 2
	wordBytes   = 4
	doubleBytes = 8
)

// place is a run of so many addresses, which does not wrap round; with a size of 0 there are none.
type place struct {
	first, size uint64
}

// storedOf is where a row says that something was stored: nowhere, if it tells no store or no size that can be.
func storedOf(r api.Row) place {
	if r.Mem&api.W == 0 || r.Size < byteBytes || r.Size > doubleBytes {
		return place{}
	}
	return place{r.Addr, uint64(r.Size)}
}

func (p place) has(at uint64) bool { return at >= p.first && at-p.first < p.size }

// meets tells whether the place has one of so many addresses from this one on.
func (p place) meets(first, size uint64) bool {
	for k := range size {
		if p.has(first + k) {
			return true
		}
	}
	return false
}

// holds tells whether RAM has a number's bytes at the place, the lowest first. A place that is not RAM whole is not asked.
func (p place) holds(ram []byte, data uint64) bool {
	if p.first < api.RamBase || p.first-api.RamBase+p.size > uint64(len(ram)) {
		return true
	}
	for k := range p.size {
		if ram[p.first-api.RamBase+k] != byte(data>>(8*k)) {
			return false
		}
	}
	return true
}

// sameWhere tells whether two RAMs of one length have the same bytes at all addresses that are asked for. Just where they differ it is asked.
func sameWhere(b, a []byte, asked func(at uint64) bool) bool {
	for i := range b {
		if a[i] != b[i] && asked(api.RamBase+uint64(i)) {
			return false
		}
	}
	return true
}
