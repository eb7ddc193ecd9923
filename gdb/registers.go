package gdb

import (
	"strings"

	"anvil/api"
	"anvil/arith"
	"anvil/bus"
	"anvil/csr"
)

// The numbers that the debugger has for registers: x0 to x31, then pc, and CSRs from firstCsr on.
const (
	pcNumber = 32
	firstCsr = 65
	csrs     = 4096
)

// registers is the answer to g.
func (s *Stub) registers() string {
	cpu := s.board.Whole().Cpu
	var all strings.Builder
	for _, v := range cpu.X {
		all.WriteString(wordDigits(v))
	}
	all.WriteString(wordDigits(cpu.Pc))
	return all.String()
}

// setRegisters does G. (The board's Set leaves x0 and pc's lowest bit 0.)
func (s *Stub) setRegisters(digits string) string {
	b, is := bytesOf(digits)
	if !is || len(b) != (pcNumber+1)*wordBytes {
		return badForm
	}
	cpu := s.board.Whole().Cpu
	for i := range cpu.X {
		cpu.X[i] = arith.Take(b[i*wordBytes : (i+1)*wordBytes])
	}
	cpu.Pc = arith.Take(b[pcNumber*wordBytes:])
	s.board.Set(cpu)
	return done
}

// register is the answer to p.
func (s *Stub) register(text string) string {
	n, is := numberOf(text)
	if !is {
		return badForm
	}
	v, there := valueOf(s.board.Whole(), n)
	if !there {
		return cannot
	}
	return wordDigits(v)
}

// valueOf is a register of a whole; false: there is none of this number.
func valueOf(w api.Whole, n uint64) (uint64, bool) {
	switch {
	case n < pcNumber:
		return w.Cpu.X[n], true
	case n == pcNumber:
		return w.Cpu.Pc, true
	}
	num, is := csrNumber(n)
	own, errno := bus.From(w.Bus)
	if !is || errno != api.OK {
		return 0, false
	}
	return csr.Read(machine(w.Cpu), own.Mip(), own.Time(), num)
}

// setRegister does P.
func (s *Stub) setRegister(text string) string {
	name, digits, _ := strings.Cut(text, "=")
	n, isNumber := numberOf(name)
	v, isWord := wordOf(digits)
	if !isNumber || !isWord {
		return badForm
	}
	cpu, can := with(s.board.Whole().Cpu, n, v)
	if !can {
		return cannot
	}
	s.board.Set(cpu)
	return done
}

// with is a Cpu with another value of a register; false: there is none of this number, or it can't be written. (The board's Set leaves x0 and pc's lowest bit 0.)
func with(cpu api.Cpu, n, v uint64) (api.Cpu, bool) {
	switch {
	case n < pcNumber:
		cpu.X[n] = v
		return cpu, true
	case n == pcNumber:
		cpu.Pc = v
		return cpu, true
	}
	num, is := csrNumber(n)
	if !is {
		return cpu, false
	}
	written, legal := csr.Write(machine(cpu), num, v)
	written.Mode = cpu.Mode
	return written, legal
}

// csrNumber is the CSR that a register's number means; false: it means none.
func csrNumber(n uint64) (int, bool) {
	if n < firstCsr || n-firstCsr >= csrs {
		return 0, false
	}
	return int(n - firstCsr), true
}

// machine is a Cpu as it would be in M: a debugger sees what M sees, whatever mode the hart is in.
func machine(cpu api.Cpu) api.Cpu {
	cpu.Mode = api.M
	return cpu
}
