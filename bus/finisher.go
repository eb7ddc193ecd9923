package bus

import "anvil/api"

// What the low half of a store to the finisher asks for.
const (
	pass = 0x5555
	fail = 0x3333
)

// finisher is the power switch.
type finisher struct {
	off, code int
}

func (f *finisher) has(addr uint64, size int) bool {
	return addr == api.FinisherBase && size == halfBytes
}

func (f *finisher) load(uint64, int) uint64 { return 0 }

func (f *finisher) store(_ uint64, _ int, v uint64) {
	if f.off != api.Running {
		return
	}
	switch uint16(v) {
	case pass:
		f.off = api.Passed
	case fail:
		f.off, f.code = api.Failed, int(uint16(v>>16))
	}
}
