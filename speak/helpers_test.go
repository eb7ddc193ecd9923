package speak_test

import (
	"math/rand/v2"
	"testing"

	"anvil/api"
	"anvil/decode"
	"anvil/speak"
)

// ram is where the examples stand.
const ram = 0x80000000

// last is the last address.
const last = 1<<64 - 1

// places are addresses to print and read at.
var places = []uint64{ram, 0, 1, 2, 3, 0x7fffffffffffffff, 0x8000000000000000, last - 4095, last - 1, last}

// random is a source that gives the same numbers each time.
func random(seed uint64) *rand.Rand { return rand.New(rand.NewPCG(seed, 7)) }

// anyPlace is an address: one of places, or any other.
func anyPlace(r *rand.Rand) uint64 {
	if r.IntN(2) == 0 {
		return places[r.IntN(len(places))]
	}
	return r.Uint64()
}

// anyOf is a raw of a row: registers that it has, a number that it can hold, often one at an edge.
func anyOf(r *rand.Rand, d drawn) uint32 {
	for {
		raw := r.Uint32()
		for i, s := range d.slots {
			if s.field == "" {
				at := len(d.slots) - 1 - i
				raw = raw&^(1<<at) | uint32(s.bit)<<at
			}
		}
		if d.length() == 2 {
			raw &= 0xffff
		}
		if d.takes(raw) {
			return raw
		}
	}
}

// tells checks a raw's text.
func tells(t *testing.T, raw uint32, pc uint64, want string) {
	t.Helper()
	if got := speak.Print(raw, pc); got != want {
		t.Errorf("P7.3: Print(%#08x, %#x) = %q, want %q", raw, pc, got, want)
	}
}

// says checks that a text is read as a raw's record.
func says(t *testing.T, text string, pc uint64, raw uint32) {
	t.Helper()
	got, e := speak.Parse(text, pc)
	want := decode.Decode(raw)
	if got != want || e != api.OK {
		t.Errorf("P7.4: Parse(%q, %#x) = %+v, %d, want %+v, OK", text, pc, got, e, want)
	}
}

// refuses checks that a text is refused by this error.
func refuses(t *testing.T, text string, pc uint64, want api.Errno) {
	t.Helper()
	got, e := speak.Parse(text, pc)
	if got != (api.Instr{}) || e != want {
		t.Errorf("P7.4: Parse(%.80q, %#x) = %+v, %d, want the zero record, %d", text, pc, got, e, want)
	}
}

// readsAsModel checks what is read of any text against the model.
func readsAsModel(t *testing.T, text string, pc uint64) api.Errno {
	t.Helper()
	raw, e := modelParse(text, pc)
	if e != api.OK {
		refuses(t, text, pc, e)
		return e
	}
	says(t, text, pc, raw)
	return e
}
