package mstatus_test

import (
	"testing"

	"anvil/mstatus"
)

func TestBits(t *testing.T) {
	got := [...]uint64{mstatus.Mie, mstatus.Mpie, mstatus.Mpp, mstatus.Mprv, mstatus.Tw, mstatus.Uxl64}
	want := [...]uint64{0x8, 0x80, 0x1800, 0x20000, 0x200000, 0x200000000}
	if got != want {
		t.Errorf("the bits are %#x, want %#x", got, want)
	}
}

// TestBefore: MPP is bits 12:11, whatever stands around it, and only they change.
func TestBefore(t *testing.T) {
	for _, rest := range []uint64{0, 0x400, 0x2000, 0xffffffffffffe7ff} {
		for was := range uint64(4) {
			if mode := mstatus.Before(rest | was<<11); mode != int(was) {
				t.Errorf("the mode of %#x is %d, want %d", rest|was<<11, mode, was)
			}
			for mode := range 4 {
				if v := mstatus.WithBefore(rest|was<<11, mode); v != rest|uint64(mode)<<11 {
					t.Errorf("%#x with mode %d is %#x", rest|was<<11, mode, v)
				}
			}
		}
	}
}
