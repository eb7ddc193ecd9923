package gdb

import (
	"strings"

	"anvil/api"
	"anvil/bus"
)

// mostRead is how many bytes m tells at most: their digits fill a packet.
const mostRead = api.MaxPacket / byteDigits

// memory is the answer to m.
func (s *Stub) memory(text string) string {
	at, length, is := spanOf(text)
	if !is {
		return badForm
	}
	own, errno := bus.From(s.board.Whole().Bus)
	if length > mostRead || errno != api.OK {
		return cannot
	}
	b, errno := own.Peek(at, int(length))
	if errno != api.OK {
		return cannot
	}
	return digitsOf(b)
}

// setMemory does M and X, which write their bytes in different ways. A length is held against the bytes that are there, so that none is too great.
func (s *Stub) setMemory(text string, read func(string) ([]byte, bool)) string {
	head, data, marked := strings.Cut(text, ":")
	at, length, isSpan := spanOf(head)
	b, isData := read(data)
	if !marked || !isSpan || !isData || uint64(len(b)) != length {
		return badForm
	}
	if s.board.Poke(at, b) != api.OK {
		return cannot
	}
	return done
}

// spanOf is an address and a length; false: the text is not of that form.
func spanOf(text string) (at, length uint64, is bool) {
	first, second, _ := strings.Cut(text, ",")
	at, isAt := numberOf(first)
	length, isLength := numberOf(second)
	return at, length, isAt && isLength
}

// plain is the bytes of X: themselves.
func plain(data string) ([]byte, bool) { return []byte(data), true }
