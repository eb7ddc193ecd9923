package decode_test

import (
	"math/rand/v2"
	"testing"

	"anvil/api"
	"anvil/decode"
)

// random is a source that gives the same numbers each time.
func random(seed uint64) *rand.Rand { return rand.New(rand.NewPCG(seed, 5)) }

// uppers are bits above a parcel: none, all, one, some.
func uppers() []uint32 { return []uint32{0, 0xffff0000, 0x00010000, 0x80000000, 0xabcd0000} }

// illegal is what is told of bits that are no instruction: their length, themselves, and nothing else.
func illegal(length int, raw uint32) api.Instr {
	var in api.Instr
	in.Len, in.Raw = length, raw
	return in
}

// decodes checks what is told of a raw, and its length.
func decodes(t *testing.T, promise string, raw uint32, want api.Instr) {
	t.Helper()
	if in := decode.Decode(raw); in != want {
		t.Errorf("%s: Decode(%#08x) = %+v, want %+v", promise, raw, in, want)
	}
	if n := decode.Length(raw); n != want.Len {
		t.Errorf("P5.1: Length(%#08x) = %d, want %d", raw, n, want.Len)
	}
}

// long checks that a raw of four bytes has a record; its Len and Raw are set here.
func long(t *testing.T, raw uint32, want api.Instr) {
	t.Helper()
	want.Len, want.Raw = 4, raw
	decodes(t, "P5.2", raw, want)
}

// noLong checks that a raw of four bytes is no instruction.
func noLong(t *testing.T, raw uint32) {
	t.Helper()
	decodes(t, "P5.2", raw, illegal(4, raw))
}

// expands checks what a parcel stands for, and what is told of it with several upper halves.
func expands(t *testing.T, p uint16, want api.Instr) {
	t.Helper()
	if e, ok := decode.Expand(p); e != back(want) || !ok {
		t.Errorf("P5.4: Expand(%#04x) = %#08x, %v, want %#08x, true", p, e, ok, back(want))
	}
	want.Len, want.Raw = 2, uint32(p)
	for _, upper := range uppers() {
		decodes(t, "P5.3", upper|uint32(p), want)
	}
}

// expandsToNone checks that a parcel stands for none, with several upper halves too.
func expandsToNone(t *testing.T, p uint16) {
	t.Helper()
	if e, ok := decode.Expand(p); e != 0 || ok {
		t.Errorf("P5.4: Expand(%#04x) = %#08x, %v: it stands for none", p, e, ok)
	}
	if p%4 == 3 {
		return
	}
	for _, upper := range uppers() {
		decodes(t, "P5.3", upper|uint32(p), illegal(2, uint32(p)))
	}
}
