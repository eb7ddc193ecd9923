package save_test

import (
	"bytes"
	"encoding/binary"
	"testing"

	"anvil/api"
	"anvil/save"
)

func TestExample1(t *testing.T) {
	b := saved(t, least())
	if len(b) != 8+516+35+4+2+4 {
		t.Fatalf("16.4: example 1 has %d bytes", len(b))
	}
	if v := binary.LittleEndian.Uint64(b[274:]); v != 0x200000000 {
		t.Errorf("16.4: the double at 274 is %#x", v)
	}
	want := make([]byte, 569)
	copy(want, "\x41\x4e\x56\x49\x4c\x53\x01\x5a")
	want[278], want[559], want[563], want[564] = 2, 8, 0xff, 0xff
	if want = resummed(want); !bytes.Equal(b, want) {
		t.Errorf("16.4: example 1 is\n% x, want\n% x", b, want)
	}
}

func TestExample2(t *testing.T) {
	w := least()
	w.Bus.Ram[3] = 7
	b := saved(t, w)
	if len(b) != 579 || !bytes.Equal(b[563:575], []byte{0, 0, 0, 0, 0, 7, 0, 0, 0, 0, 0xff, 0xff}) {
		t.Errorf("16.4: example 2 has %d bytes, and ends in % x", len(b), b[563:])
	}
}

func TestExample3(t *testing.T) {
	b := saved(t, least())
	refused(t, "16.4: no bytes", nil, api.ErrShape)
	refused(t, "16.4: eight bytes", b[:8], api.ErrShape)
	for n := range 8 {
		turned := bytes.Clone(b)
		turned[9] ^= 1 << n
		refused(t, "16.4: a bit of byte 9 turned", turned, api.ErrSum)
		turned = bytes.Clone(b)
		turned[7] ^= 1 << n
		refused(t, "16.4: byte 7 changed", turned, api.ErrShape)
	}
}

func TestExample4(t *testing.T) {
	d := drafted(least())
	d.cpu.Mstatus = 0
	refused(t, "16.4: Mstatus 0", d.bytes(), api.ErrWhole)
	d = drafted(least())
	d.cpu.Waiting = 2
	refused(t, "16.4: Waiting 2", d.bytes(), api.ErrShape)
	d = drafted(least())
	d.pages = []pagePart{{0, make([]byte, 8)}}
	refused(t, "16.4: a page of zeros", d.bytes(), api.ErrShape)
	d = drafted(least())
	d.devices.Power = 3
	refused(t, "16.4: Off 3", d.bytes(), api.ErrWhole)
}

func TestExample5(t *testing.T) {
	twelve, code := least(), least()
	twelve.Bus.Ram, code.Bus.Code = make([]byte, 12), 1
	for _, w := range []api.Whole{twelve, code} {
		if b, e := save.Save(w); b != nil || e != api.ErrWhole {
			t.Errorf("16.4: Save answers %d bytes and error %d of\n%+v", len(b), e, w)
		}
	}
}
