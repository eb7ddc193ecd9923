package gdb

import (
	"bytes"

	"anvil/api"
)

// The bytes that make a packet.
const (
	begin  = '$'
	end    = '#'
	escape = '}'
	repeat = '*'
)

// turned is what an escaped byte is exclusive-ored with.
const turned = 32

// tail is the bytes of a packet from its end mark on: the mark and two digits.
const tail = 3

// Pack makes a packet of a payload.
func Pack(payload []byte) ([]byte, api.Errno) {
	if len(payload) > api.MaxPacket {
		return nil, api.ErrLong
	}
	packet := []byte{begin}
	sum := byte(0)
	for _, c := range escaped(payload) {
		packet = append(packet, c)
		sum += c
	}
	packet = append(packet, end)
	return append(packet, digitsOf([]byte{sum})...), api.OK
}

// escaped is a payload as a body that no byte of it can end or begin.
func escaped(payload []byte) []byte {
	var all []byte
	for _, c := range payload {
		switch c {
		case begin, end, escape, repeat:
			all = append(all, escape, c^turned)
		default:
			all = append(all, c)
		}
	}
	return all
}

// Unpack reads one packet: its payload.
func Unpack(b []byte) ([]byte, api.Errno) {
	inner, told, is := cut(b)
	if !is {
		return nil, api.ErrArg
	}
	var all body
	for _, c := range inner {
		all.join(c)
	}
	if all.sum != told {
		return nil, api.ErrSum
	}
	return all.payload()
}

// cut is the body of a packet and the sum that its digits tell; false: the bytes are not just one packet.
func cut(b []byte) ([]byte, byte, bool) {
	mark := len(b) - tail
	if mark < 1 || b[0] != begin || b[mark] != end {
		return nil, 0, false
	}
	inner := b[1:mark]
	if bytes.IndexByte(inner, begin) >= 0 || bytes.IndexByte(inner, end) >= 0 {
		return nil, 0, false
	}
	told, is := sumOf(b[mark+1], b[mark+2])
	return inner, told, is
}

// sumOf is the sum that two digits tell; false: one of them is none.
func sumOf(first, second byte) (byte, bool) {
	b, is := bytesOf(string([]byte{first, second}))
	if !is {
		return 0, false
	}
	return b[0], true
}

// body is a packet's body as its bytes come: their sum, and what they stand for so far. Of a payload that is too long no more is kept than that it is.
type body struct {
	sum   byte
	bytes []byte
	half  bool // the last byte was an escape: the next one is to be turned
	long  bool
}

// join takes the body's next byte.
func (b *body) join(c byte) {
	b.sum += c
	switch {
	case b.half:
		b.half = false
		b.keep(c ^ turned)
	case c == escape:
		b.half = true
	default:
		b.keep(c)
	}
}

// keep takes the payload's next byte.
func (b *body) keep(c byte) {
	if len(b.bytes) == api.MaxPacket {
		b.long = true
		return
	}
	b.bytes = append(b.bytes, c)
}

// payload is what the whole body stands for.
func (b *body) payload() ([]byte, api.Errno) {
	switch {
	case b.half:
		return nil, api.ErrArg
	case b.long:
		return nil, api.ErrLong
	}
	return b.bytes, api.OK
}
