package image_test

import (
	"testing"

	"anvil/api"
)

// span is bytes of a file from one place up to another.
type span struct{ from, to int }

// unread is what chapter 2 does not look at in the file of rich().
func unread() []span {
	spans := []span{{7, 16}, {62, 64}}
	for i := range 3 {
		h := richPrograms + 56*i
		spans = append(spans, span{h + 16, h + 24}, span{h + 48, h + 56})
	}
	spans = append(spans, span{237, 240}, span{250, 256}) // gaps
	spans = append(spans, span{richTable, richTable + 24})
	for i := range 4 {
		y := richTable + 24*(1+i)
		spans = append(spans, span{y + 5, y + 6}, span{y + 16, y + 24})
	}
	spans = append(spans, span{richTexts, richTexts + 1}, span{richOwnTexts, richSections})
	s := richSections
	spans = append(spans, span{s, s + 4}, span{s + 8, s + 64})
	s += 64
	spans = append(spans, span{s, s + 4}, span{s + 8, s + 24}, span{s + 44, s + 56})
	s += 64
	spans = append(spans, span{s, s + 4}, span{s + 8, s + 24}, span{s + 40, s + 64})
	return append(spans, span{s + 64, s + 128})
}

func TestP2_3(t *testing.T) {
	b := richFile(t)
	for _, s := range unread() {
		for at := s.from; at < s.to; at++ {
			for _, v := range []uint64{0, 1, 2, 0x80, 0xaa, 0xff, uint64(b[at] ^ 1)} {
				wantImage(t, "P2.3: another byte", patched(b, patch{at, 1, v}), rich())
			}
		}
	}
	for _, v := range []byte{0, 2, 0xff} {
		x := patched(b)
		for _, s := range unread() {
			for at := s.from; at < s.to; at++ {
				x[at] = v
			}
		}
		for i := range 4 {
			x[richTable+24*(1+i)+4] ^= 0xf0 // the upper four bits
		}
		wantImage(t, "P2.3: other bytes everywhere", x, rich())
		wantImage(t, "P2.3: and bytes behind the file", append(x, 1, 2, 3), rich())
	}
}

// A header of the file that is not asked for is not looked at either.
func TestP2_3Hidden(t *testing.T) {
	b := richFile(t)
	want := rich()
	want.Syms = nil
	for _, at := range []int{richTable + 24, richSections + 64 + 56, richSections + 128 + 4, 58} {
		wantImage(t, "P2.3: no sections", patched(b, patch{60, 2, 0}, patch{at, 1, 0xff}), want)
	}
	none := api.Image{Entry: rich().Entry, Syms: rich().Syms}
	for _, at := range []int{54, richPrograms, richPrograms + 4, richPrograms + 32} {
		wantImage(t, "P2.3: no program headers", patched(b, patch{56, 2, 0}, patch{at, 1, 0xff}), none)
	}
}
