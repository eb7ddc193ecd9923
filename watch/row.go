package watch

import (
	"anvil/api"
	"anvil/opcode"
)

const (
	// interruptBit is what an interrupt's cause has beside its number.
	interruptBit = 1 << 63

	// returning is the one instruction by which the hart leaves M.
	returning = 0x30200073

	// opcodeBits is where an instruction's opcode stands.
	opcodeBits = 0x7f
)

func isKind(kind int) bool { return kind >= api.RowRetire && kind <= api.RowOff }

func isMode(mode int) bool { return mode == api.U || mode == api.M }

func isTrap(r api.Row) bool { return r.Kind == api.RowException || r.Kind == api.RowInterrupt }

// mayWriteCounters tells whether the row's instruction may have written the counters itself: all that write CSRs have this opcode.
func mayWriteCounters(r api.Row) bool {
	return r.Kind == api.RowRetire && r.Raw&opcodeBits == opcode.System
}

// beginsAt tells whether a row begins where a Cpu stands.
func beginsAt(r api.Row, c api.Cpu) bool { return r.Pc == c.Pc && r.Mode == c.Mode }

// endsAt tells whether a row ends where a Cpu stands.
func endsAt(r api.Row, c api.Cpu) bool { return r.Next == c.Pc && r.NextMode == c.Mode }

// didNothing tells whether a row tells neither a register nor an access.
func didNothing(r api.Row) bool { return r.Rd == 0 && r.Val == 0 && r.Mem == 0 && reachedNothing(r) }

// reachedNothing tells whether all that a row tells of an access's place is 0.
func reachedNothing(r api.Row) bool { return r.Addr == 0 && r.Size == 0 && r.Data == 0 }

// leaves tells whether an instruction that retires between these modes leaves M in the one way that there is.
func leaves(r api.Row, from, to int) bool {
	return from == api.M && to == api.U && r.Kind == api.RowRetire && r.Raw == returning
}

// modeMayTurn tells whether a step with this row may lead from a mode to another.
func modeMayTurn(r api.Row, from, to int) bool {
	return to == from || from == api.U && to == api.M && isTrap(r) || leaves(r, from, to)
}
