package watch

import (
	"anvil/api"
	"anvil/mstatus"
	"anvil/pmp"
)

const (
	registers = 32
	entries   = 16
)

// The counters' bits in Mcountinhibit.
const (
	cycleBit   = 1 << 0
	instretBit = 1 << 2
)

// Mtvec: its low two bits are no part of the address, and the lowest one says that each interrupt has a place of its own.
const (
	vectorBits = 3
	vectored   = 1
	vectorSize = 4
)

// one is what a count grows by where this is so.
func one(so bool) uint64 {
	if so {
		return 1
	}
	return 0
}

// wroteOne tells whether the registers changed just as the row says: at most that one, and where nothing retired none.
func wroteOne(r api.Row, b, a [registers]uint64) bool {
	if r.Kind != api.RowRetire {
		return a == b && didNothing(r)
	}
	if r.Rd < 0 || r.Rd >= registers {
		return false
	}
	if r.Rd != 0 {
		b[r.Rd] = r.Val
	}
	return a == b
}

// keptLocks tells whether what takes no write is as it was.
func keptLocks(b, a api.Pmp) bool {
	for i := range entries {
		cfg, addr := pmp.Locked(b, i)
		if cfg && a.Cfg[i] != b.Cfg[i] || addr && a.Addr[i] != b.Addr[i] {
			return false
		}
	}
	return true
}

// sameOwn tells whether the CSRs are the same that M alone writes, by instructions.
func sameOwn(b, a api.Cpu) bool {
	return a.Mtvec == b.Mtvec && a.Mie == b.Mie && a.Mcounteren == b.Mcounteren &&
		a.Mcountinhibit == b.Mcountinhibit && a.Menvcfg == b.Menvcfg && a.Mscratch == b.Mscratch
}

// sameTold tells whether the CSRs are the same that tell of traps.
func sameTold(b, a api.Cpu) bool {
	return a.Mstatus == b.Mstatus && a.Mepc == b.Mepc && a.Mcause == b.Mcause && a.Mtval == b.Mtval
}

// sameButCycle tells whether two Cpus are the same in all but Mcycle.
func sameButCycle(b, a api.Cpu) bool {
	b.Mcycle = a.Mcycle
	return a == b
}

// entered tells whether a is behind the trap that the row tells, where b was ahead of it.
func entered(r api.Row, b, a api.Cpu) bool {
	return a.Mepc == b.Pc && a.Mcause == r.Cause && a.Mtval == r.Tval && a.Mstatus == entry(b.Mstatus, b.Mode) &&
		a.Mode == api.M && !a.Waiting && a.Res == api.Res{} && a.Pc == handler(b.Mtvec, r.Cause)
}

// entry is what a trap in this mode makes of Mstatus.
func entry(status uint64, mode int) uint64 {
	next := status &^ (mstatus.Mie | mstatus.Mpie)
	if status&mstatus.Mie != 0 {
		next |= mstatus.Mpie
	}
	return mstatus.WithBefore(next, mode)
}

// handler is where a trap of this cause goes on.
func handler(vector, cause uint64) uint64 {
	at := vector &^ vectorBits
	if cause&interruptBit != 0 && vector&vectored != 0 {
		at += vectorSize * (cause &^ interruptBit)
	}
	return at
}

// cycles is how many more cycles are counted behind a step with this Cpu ahead of it.
func cycles(b api.Cpu) uint64 { return one(b.Mcountinhibit&cycleBit == 0) }

// retired is how many more instructions are counted.
func retired(r api.Row, b api.Cpu) uint64 {
	return one(r.Kind == api.RowRetire && b.Mcountinhibit&instretBit == 0)
}
