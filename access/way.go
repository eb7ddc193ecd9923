package access

import (
	"math/bits"

	"anvil/api"
	"anvil/bus"
	"anvil/pmp"
	"anvil/trap"
)

// width: the numbers that one access moves.
type width interface {
	uint8 | uint16 | uint32 | uint64
}

// turn: what is stored, of what was there. nil: nothing is stored.
type turn func(old uint64) uint64

// way: where an access goes, what protection must grant it, and the causes of its traps.
type way struct {
	bus               *bus.Bus
	entries           api.Pmp
	mode              int
	addr              uint64
	rights            int
	ramAlone          bool
	misaligned, fault uint64
}

// loading is the way of a load by a proper Cpu.
func loading(c api.Cpu, b *bus.Bus, addr uint64) way {
	return way{
		bus: b, entries: c.Pmp, mode: trap.Effective(c), addr: addr, rights: api.R,
		misaligned: loadMisaligned, fault: loadFault,
	}
}

// storing is the way of a store by a proper Cpu.
func storing(c api.Cpu, b *bus.Bus, addr uint64) way {
	return way{
		bus: b, entries: c.Pmp, mode: trap.Effective(c), addr: addr, rights: api.W,
		misaligned: storeMisaligned, fault: storeFault,
	}
}

// plain does an access of 1, 2, 4 or 8 bytes; every other size is misaligned.
func (w way) plain(size int, made turn) (uint64, uint64, api.Trap) {
	switch size {
	case 1:
		return move[uint8](w, made)
	case 2:
		return move[uint16](w, made)
	case 4:
		return move[uint32](w, made)
	case 8:
		return move[uint64](w, made)
	}
	return 0, 0, w.stopped(w.misaligned)
}

// atomic does an access of RAM alone, of 4 or 8 bytes; every other size is misaligned.
func (w way) atomic(size int, made turn) (uint64, uint64, api.Trap) {
	if size != 4 && size != 8 {
		return 0, 0, w.stopped(w.misaligned)
	}
	w.ramAlone = true
	return w.plain(size, made)
}

// always is the turn of a plain store: v, whatever was there.
func always(v uint64) turn {
	return func(uint64) uint64 { return v }
}

// move does an access of T's width, if it may be: the number that was there, and the one that was stored. A plain store does not load: at a device a load may change what is there.
func move[T width](w way, made turn) (uint64, uint64, api.Trap) {
	size := bits.Len64(uint64(^T(0))) / 8
	if stop := w.forbidden(size); stop.Is {
		return 0, 0, stop
	}
	var old, stored T
	if w.rights != api.W {
		v, _ := w.bus.Load(w.addr, size)
		old = T(v)
	}
	if made != nil {
		stored = T(made(uint64(old)))
		w.bus.Store(w.addr, size, uint64(stored))
	}
	return uint64(old), uint64(stored), api.Trap{}
}

// forbidden is the trap of an access of size bytes, or none: by alignment, protection and the bus, in this order.
func (w way) forbidden(size int) api.Trap {
	switch {
	case w.addr%uint64(size) != 0:
		return w.stopped(w.misaligned)
	case !pmp.Check(w.entries, w.mode, w.addr, size, w.rights), !w.there(size):
		return w.stopped(w.fault)
	}
	return api.Trap{}
}

// there tells whether the bus has something for the access.
func (w way) there(size int) bool {
	if w.ramAlone {
		return w.bus.IsRam(w.addr, size)
	}
	return w.bus.Can(w.addr, size, w.rights)
}

// stopped is the trap of this cause.
func (w way) stopped(cause uint64) api.Trap {
	return api.Trap{Is: true, Cause: cause, Tval: w.addr}
}
