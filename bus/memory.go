package bus

import (
	"anvil/api"
	"anvil/arith"
)

// wordBytes is how many bytes a word has, and halfBytes its half.
const (
	wordBytes = 8
	halfBytes = 4
)

// memory is RAM.
type memory struct {
	cells []byte
}

func (m *memory) has(addr uint64, size int) bool {
	switch size {
	case 1, 2, halfBytes, wordBytes:
		return addr%uint64(size) == 0 && m.holds(addr, size)
	}
	return false
}

func (m *memory) load(addr uint64, size int) uint64 {
	return arith.Take(m.run(addr, size))
}

func (m *memory) store(addr uint64, size int, v uint64) {
	copy(m.run(addr, size), arith.Put(v, size))
}

// holds tells whether so many bytes (there is at least one) from an address on are RAM. It compares what is left of RAM, not where the run ends: that sum could wrap.
func (m *memory) holds(addr uint64, size int) bool {
	if addr < api.RamBase {
		return false
	}
	from, cells := addr-api.RamBase, uint64(len(m.cells))
	return from < cells && uint64(size) <= cells-from
}

// run is the cells of a run that RAM holds: the cells themselves, no copy.
func (m *memory) run(addr uint64, size int) []byte {
	from := int(addr - api.RamBase)
	return m.cells[from : from+size]
}
