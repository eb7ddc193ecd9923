package gdb

import "anvil/api"

// The bytes between packets that mean something.
const (
	taken   = '+' // a packet came whole
	refused = '-' // it did not
)

// Where on the line a byte is.
const (
	outside = iota
	inside
	firstDigit
	secondDigit
)

// line is what is kept of a packet that has begun.
type line struct {
	place int
	body  body
	digit byte
}

// take takes one byte that the debugger sends.
func (s *Stub) take(c byte) {
	switch {
	case s.gone:
	case s.line.place == outside:
		s.between(c)
	case s.line.place == inside:
		s.within(c)
	case s.line.place == firstDigit:
		s.line.digit, s.line.place = c, secondDigit
	default:
		s.ended(c)
	}
}

// between takes a byte outside packets.
func (s *Stub) between(c byte) {
	switch {
	case c == begin:
		s.line.place = inside
	case c == refused && s.last != nil:
		s.send(s.last)
	}
}

// within takes a byte of a packet, ahead of its digits.
func (s *Stub) within(c byte) {
	switch c {
	case begin:
		s.line.body = body{}
	case end:
		s.line.place = firstDigit
	default:
		s.line.body.join(c)
	}
}

// ended takes a packet's last byte: the packet is done with.
func (s *Stub) ended(c byte) {
	all := s.line.body
	told, is := sumOf(s.line.digit, c)
	s.line = line{}
	if !is || told != all.sum {
		s.acknowledge(refused)
		return
	}
	s.acknowledge(taken)
	payload, errno := all.payload()
	if errno != api.OK {
		s.reply(noPayload)
		return
	}
	s.obey(string(payload))
}

// acknowledge tells how a packet came, as long as the debugger wants to know.
func (s *Stub) acknowledge(how byte) {
	if s.acks {
		s.send([]byte{how})
	}
}

// reply sends an answer. It is kept for a debugger that may ask for it again.
func (s *Stub) reply(answer string) {
	packet, _ := Pack([]byte(answer)) // no answer is too long: the longest is m's, of MaxPacket digits
	if s.acks {
		s.last = packet
	}
	s.send(packet)
}
