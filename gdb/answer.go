package gdb

import "strings"

// The answers that several commands have.
const (
	done      = "OK"
	badForm   = "E01"
	cannot    = "E02"
	noPayload = "E03"
	unknown   = ""
)

// obey does what a payload asks, and answers it; k alone has no answer.
func (s *Stub) obey(payload string) {
	if payload == "k" {
		s.gone = true
		return
	}
	s.reply(s.answer(payload))
}

// answer does what a payload asks: a command that is the whole payload, or one with something behind its letter.
func (s *Stub) answer(payload string) string {
	switch payload {
	case "":
		return unknown
	case "?":
		return s.state()
	case "g":
		return s.registers()
	case "vCont;s", "vCont;s:1":
		return s.resume("", s.one)
	case "vCont;c", "vCont;c:1":
		return s.resume("", s.many)
	case "QStartNoAckMode":
		s.hush()
		return done
	case "D":
		s.gone = true
		return done
	}
	if answer, is := fixed(payload); is {
		return answer
	}
	return s.command(payload[0], payload[1:])
}

// fixed is the answer to a payload that asks nothing of the board; false: it is none of these.
func fixed(payload string) (string, bool) {
	switch payload {
	case "vCont?":
		return "vCont;c;s", true
	case "qC":
		return "QC1", true
	case "qfThreadInfo":
		return "m1", true
	case "qsThreadInfo":
		return "l", true
	case "qAttached":
		return "1", true
	}
	switch {
	case strings.HasPrefix(payload, "qSupported"):
		return "PacketSize=3e8;QStartNoAckMode+", true
	case payload[0] == 'H', payload[0] == 'T':
		return done, true
	}
	return "", false
}

// command does what a letter asks with what stands behind it.
func (s *Stub) command(letter byte, rest string) string {
	switch letter {
	case 'G':
		return s.setRegisters(rest)
	case 'p':
		return s.register(rest)
	case 'P':
		return s.setRegister(rest)
	case 'm':
		return s.memory(rest)
	case 'M':
		return s.setMemory(rest, bytesOf)
	case 'X':
		return s.setMemory(rest, plain)
	case 'Z':
		return s.setStop(rest)
	case 'z':
		return s.clearStop(rest)
	case 's':
		return s.resume(rest, s.one)
	case 'c':
		return s.resume(rest, s.many)
	}
	return unknown
}

// hush ends acknowledging; nothing can be asked for again then.
func (s *Stub) hush() {
	s.acks = false
	s.last = nil
}
