package exec

import (
	"anvil/api"
	"anvil/bus"
)

// illegal is the cause of an instruction that may not be done.
const illegal = 2

// exception is what an instruction leaves by; no other panic is one.
type exception api.Trap

// trapOf is the trap of an exception. Any other panic is a mistake of the program's own, which an answer would hide.
func trapOf(cause any) api.Trap {
	stop, is := cause.(exception)
	if !is {
		panic(cause)
	}
	return api.Trap(stop)
}

// work is an instruction on its way. Registers and Pc are read from the Cpu that was, so that what is written of them does not count; next is where the hart goes on.
type work struct {
	was, cpu api.Cpu
	bus      *bus.Bus
	in       api.Instr
	size     int
	next     uint64
	done     api.Done
}

// run does the instruction, or leaves it by an exception.
func (w *work) run() {
	f, is := formOf(w.in.Op)
	w.insist(is && w.fits())
	w.size = f.size
	f.body(w)
	w.cpu.Pc = w.next &^ 1
}

// fits tells whether there can be an instruction with these registers and this length.
func (w *work) fits() bool {
	for _, n := range [...]int{w.in.Rd, w.in.Rs1, w.in.Rs2} {
		if n < 0 || n >= len(w.was.X) {
			return false
		}
	}
	return w.in.Len == 2 || w.in.Len == 4
}

// insist leaves the instruction as an illegal one, unless it is legal.
func (w *work) insist(legal bool) {
	if !legal {
		w.stop(illegal, uint64(w.in.Raw))
	}
}

// pass leaves the instruction by the trap of an access, if there is one.
func (w *work) pass(t api.Trap) {
	if t.Is {
		w.stop(t.Cause, t.Tval)
	}
}

// stop leaves the instruction.
func (w *work) stop(cause, tval uint64) {
	panic(exception{Is: true, Cause: cause, Tval: tval})
}

func (w *work) first() uint64 { return w.was.X[w.in.Rs1] }

func (w *work) second() uint64 { return w.was.X[w.in.Rs2] }

func (w *work) immediate() uint64 { return uint64(w.in.Imm) }

// put is what the chapter calls "rd gets v".
func (w *work) put(v uint64) {
	if w.in.Rd == 0 {
		return
	}
	w.cpu.X[w.in.Rd] = v
	w.done.Rd, w.done.Val = w.in.Rd, v
}
