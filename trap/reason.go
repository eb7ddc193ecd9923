package trap

// interruptBit is what an interrupt's cause has beside its number.
const interruptBit = 1 << 63

// Of Mtvec: whether each interrupt has a handler of its own, and which bits are no address.
const (
	vectoredBit = 1
	vectorFlags = 3
)

// handlerSize is how far the interrupts' handlers stand from one another: room for one jump each.
const handlerSize = 4

// The interrupts that the hart has, by their numbers, which are their bits in mip and Mie.
const (
	software interrupt = 3
	timer    interrupt = 7
	external interrupt = 11
)

// reason is why a trap is taken: an interrupt or an exception.
type reason any

// interrupt is a reason that comes from outside: its number.
type interrupt uint64

// exception is a reason that stopped an instruction: its number.
type exception uint64

// reasonOf is the reason that a cause tells.
func reasonOf(cause uint64) reason {
	if cause&interruptBit != 0 {
		return interrupt(cause &^ interruptBit)
	}
	return exception(cause)
}

// first is, of the interrupts whose bits are set, the one that goes ahead of the others; false: there is none.
func first(bits uint64) (interrupt, bool) {
	for _, one := range [...]interrupt{external, software, timer} {
		if bits>>one&1 != 0 {
			return one, true
		}
	}
	return 0, false
}

// handler is where a trap goes on.
func handler(vector uint64, why reason) uint64 {
	at := vector &^ vectorFlags
	switch one := why.(type) {
	case interrupt:
		if vector&vectoredBit != 0 {
			at += handlerSize * uint64(one)
		}
	case exception:
		// No exception has a handler of its own: it goes where it would without the flag.
	}
	return at
}
