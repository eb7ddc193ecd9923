package bus

import "anvil/api"

// The registers of the console, by their distance from UartBase.
const (
	dataRegister = iota
	enableRegister
	reasonRegister
	lineRegister
	modemRegister
	statusRegister
	unusedRegister
	scratchRegister
	registers
)

// What the registers tell and take.
const (
	enableInput   = 1  // of enable: input raises the line
	inputCame     = 4  // of reason: the line is up
	nothingCame   = 1  // of reason: it is not
	emptyInput    = 2  // stored to reason: the input is thrown away
	statusWaiting = 1  // of status: input waits
	statusLost    = 2  // of status: input was lost
	statusRoom    = 96 // of status: the console takes output
)

// uart is the console.
type uart struct {
	ier, lcr, mcr, scratch uint8
	input                  *queue
	output                 []byte
}

func (u *uart) has(addr uint64, size int) bool {
	return size == 1 && addr >= api.UartBase && addr < api.UartBase+registers
}

func (u *uart) load(addr uint64, _ int) uint64 {
	switch addr - api.UartBase {
	case dataRegister:
		return uint64(u.input.take())
	case enableRegister:
		return uint64(u.ier)
	case reasonRegister:
		return u.reason()
	case lineRegister:
		return uint64(u.lcr)
	case modemRegister:
		return uint64(u.mcr)
	case statusRegister:
		return u.status()
	case scratchRegister:
		return uint64(u.scratch)
	}
	return 0
}

func (u *uart) store(addr uint64, _ int, v uint64) {
	switch addr - api.UartBase {
	case dataRegister:
		u.send(byte(v))
	case enableRegister:
		u.ier = uint8(v) & highestIer
	case reasonRegister:
		if v&emptyInput != 0 {
			u.input.empty()
		}
	case lineRegister:
		u.lcr = uint8(v)
	case modemRegister:
		u.mcr = uint8(v) & highestMcr
	case scratchRegister:
		u.scratch = uint8(v)
	}
}

// send adds a byte to the output; a full console is dumb.
func (u *uart) send(c byte) {
	if u.hasRoom() {
		u.output = append(u.output, c)
	}
}

func (u *uart) hasRoom() bool { return len(u.output) < api.MaxOutput }

// line tells whether the interrupt line is up.
func (u *uart) line() bool { return u.ier&enableInput != 0 && u.input.waits() }

func (u *uart) reason() uint64 {
	if u.line() {
		return inputCame
	}
	return nothingCame
}

// status tells of the input and the output, and that input was lost just once.
func (u *uart) status() uint64 {
	waits, lost := u.input.tell()
	status := uint64(0)
	if waits {
		status |= statusWaiting
	}
	if lost {
		status |= statusLost
	}
	if u.hasRoom() {
		status |= statusRoom
	}
	return status
}
