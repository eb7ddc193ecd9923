package bus

import (
	"anvil/api"
	"anvil/arith"
)

// msip is the software interrupt's register.
type msip struct {
	raised uint32
}

func (m *msip) has(addr uint64, size int) bool { return addr == api.Msip && size == halfBytes }

func (m *msip) load(uint64, int) uint64 { return uint64(m.raised) }

func (m *msip) store(_ uint64, _ int, v uint64) { m.raised = uint32(v) & highestMsip }

// counter is a register of the timer, mtime or mtimecmp: a word that can be reached by its halves too.
type counter struct {
	base, value uint64
}

func (c *counter) has(addr uint64, size int) bool {
	switch size {
	case halfBytes:
		return addr == c.base || addr == c.base+halfBytes
	case wordBytes:
		return addr == c.base
	}
	return false
}

func (c *counter) load(addr uint64, size int) uint64 {
	return arith.Take(arith.Put(c.value, wordBytes)[addr-c.base:][:size])
}

func (c *counter) store(addr uint64, size int, v uint64) {
	word := arith.Put(c.value, wordBytes)
	copy(word[addr-c.base:], arith.Put(v, size))
	c.value = arith.Take(word)
}
