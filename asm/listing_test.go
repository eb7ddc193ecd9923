package asm_test

import (
	"bytes"
	"math/rand/v2"
	"strings"
	"testing"

	"anvil/api"
	"anvil/speak"
)

// listed: the lines of b's listing must be assembled to b.
func listed(t *testing.T, b []byte) {
	t.Helper()
	lines := speak.List(b, api.RamBase)
	for _, end := range []string{"\n", "\r\n"} {
		im := made(t, strings.Join(lines, end))
		switch {
		case len(b) == 0 && len(im.Segs) == 0:
		case len(im.Segs) == 1 && bytes.Equal(im.Segs[0].Data, b):
		default:
			t.Fatalf("P8.4: % x: %q", b, lines)
		}
	}
}

func TestP8_4Parcels(t *testing.T) {
	t.Parallel()
	for first := 0; first < 1<<16; first += 900 { // every parcel, two bytes or four
		var b []byte
		for i := first; i < min(first+900, 1<<16) && len(b) <= 1998; i++ {
			b = append(b, byte(i), byte(i>>8))
		}
		listed(t, b)
	}
	for raw := range 1 << 16 {
		if raw&3 != 3 && raw%7 == 0 {
			listed(t, []byte{byte(raw), byte(raw >> 8)})
		}
	}
}

func TestP8_4Bytes(t *testing.T) {
	t.Parallel()
	r := rand.New(rand.NewPCG(84, 8))
	listed(t, nil)
	for n := range 40 {
		for range 20 {
			listed(t, randomBytes(r, n))
		}
	}
	for range 60 {
		listed(t, randomBytes(r, r.IntN(2001)))
	}
	listed(t, randomBytes(r, 2000))
	listed(t, bytes.Repeat([]byte{1, 0}, 1000))
	listed(t, make([]byte, 1999))
	listed(t, bytes.Repeat([]byte{0xff}, 1999))
}

// randomBytes: any bytes, or the words of instructions that are some.
func randomBytes(r *rand.Rand, n int) []byte {
	var b []byte
	opcodes := []byte{0x37, 0x17, 0x6f, 0x67, 0x63, 0x03, 0x23, 0x13, 0x1b, 0x33, 0x3b, 0x0f, 0x73, 0x2f}
	plain := r.IntN(2) == 0
	for len(b) < n {
		w := r.Uint32()
		if !plain {
			w = w&^0x7f | uint32(opcodes[r.IntN(len(opcodes))])
			if r.IntN(2) == 0 {
				w &^= 0xfe000000
			}
			if r.IntN(3) == 0 {
				w = w&^3 | r.Uint32()%3
			}
		}
		b = append(b, byte(w), byte(w>>8), byte(w>>16), byte(w>>24))
	}
	return b[:n]
}

// TestP8_4Texts: each instruction of a listing stands where it was listed.
func TestP8_4Texts(t *testing.T) {
	r := rand.New(rand.NewPCG(85, 8))
	for range 3000 {
		pc := uint64(2 * r.IntN(64))
		raw := r.Uint32()
		text := speak.Print(raw, api.RamBase+pc)
		got := textOf(t, ".zero "+hexText(pc)+"\n"+text)[pc:]
		want := []byte{byte(raw), byte(raw >> 8), byte(raw >> 16), byte(raw >> 24)}
		if raw&3 != 3 {
			want = want[:2]
		}
		if !bytes.Equal(got, want) {
			t.Fatalf("P8.4: %q at %#x: % x, want % x", text, pc, got, want)
		}
	}
}
