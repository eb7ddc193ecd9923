package bus

// device is what stands at some addresses. Only accesses that it has are loaded from it and stored to it.
type device interface {
	has(addr uint64, size int) bool
	load(addr uint64, size int) uint64
	store(addr uint64, size int, v uint64)
}

// devices stand apart, so that the first one that has an access is the only one. RAM comes first, since nearly all accesses go there.
func (b *Bus) devices() [6]device {
	return [6]device{b.ram, b.console, b.clock, b.compare, b.software, b.power}
}

// find is the device that has an access; false: none has it.
func (b *Bus) find(addr uint64, size int) (device, bool) {
	for _, d := range b.devices() {
		if d.has(addr, size) {
			return d, true
		}
	}
	return nil, false
}
