package encode_test

import (
	"bytes"
	"math/rand/v2"
	"testing"

	"anvil/api"
	"anvil/decode"
	"anvil/encode"
)

// random is a source that gives the same numbers each time.
func random(seed uint64) *rand.Rand { return rand.New(rand.NewPCG(seed, 6)) }

// anyRecord is a record that there is, of an operation.
func anyRecord(r *rand.Rand, o operation) api.Instr {
	in := api.Instr{Op: o.op}
	for _, field := range []string{"rd", "rs1", "rs2", "aq", "rl"} {
		if o.has(field) {
			in = with(in, field, r.Int64N(32))
		}
	}
	if o.has("imm") {
		least, greatest, step := o.numbers()
		in.Imm = least + step*r.Int64N((greatest-least)/step+1)
	}
	return in
}

// with is a record with a field set. A bool is set by an odd number.
func with(in api.Instr, field string, n int64) api.Instr {
	switch field {
	case "rd":
		in.Rd = int(n)
	case "rs1":
		in.Rs1 = int(n)
	case "rs2":
		in.Rs2 = int(n)
	case "imm":
		in.Imm = n
	case "aq":
		in.Aq = n%2 != 0
	case "rl":
		in.Rl = n%2 != 0
	}
	return in
}

// lowFirst are the low bytes of a number, so many.
func lowFirst(n uint32, count int) []byte {
	out := []byte{}
	for range count {
		out = append(out, byte(n%256))
		n /= 256
	}
	return out
}

// is checks what all four functions say of a record that there is: its 32 bits, and its least parcel, if it has one.
func is(t *testing.T, in api.Instr, raw uint32, parcel uint16, short bool) {
	t.Helper()
	if e := encode.Check(in); e != api.OK {
		t.Errorf("E1: Check(%+v) = %d, want OK", in, e)
	}
	if got, e := encode.Encode(in); got != raw || e != api.OK {
		t.Errorf("E2: Encode(%+v) = %#08x, %d, want %#08x, OK", in, got, e, raw)
	}
	if got, ok := encode.Compress(in); got != parcel || ok != short {
		t.Errorf("E3: Compress(%+v) = %#04x, %v, want %#04x, %v", in, got, ok, parcel, short)
	}
	long := lowFirst(raw, 4)
	if got, e := encode.Bytes(in, false); !bytes.Equal(got, long) || e != api.OK {
		t.Errorf("E4: Bytes(%+v, false) = %x, %d, want %x, OK", in, got, e, long)
	}
	if short {
		long = lowFirst(uint32(parcel), 2)
	}
	if got, e := encode.Bytes(in, true); !bytes.Equal(got, long) || e != api.OK {
		t.Errorf("E4: Bytes(%+v, true) = %x, %d, want %x, OK", in, got, e, long)
	}
}

// isNone checks that all four functions refuse a record, by this error.
func isNone(t *testing.T, in api.Instr, want api.Errno) {
	t.Helper()
	if e := encode.Check(in); e != want {
		t.Errorf("E1: Check(%+v) = %d, want %d", in, e, want)
	}
	if got, e := encode.Encode(in); got != 0 || e != want {
		t.Errorf("E2: Encode(%+v) = %#08x, %d, want 0, %d", in, got, e, want)
	}
	if got, ok := encode.Compress(in); got != 0 || ok {
		t.Errorf("E3: Compress(%+v) = %#04x, %v, want 0, false", in, got, ok)
	}
	for _, short := range []bool{false, true} {
		if got, e := encode.Bytes(in, short); got != nil || e != want {
			t.Errorf("E4: Bytes(%+v, %v) = %x, %d, want nil, %d", in, short, got, e, want)
		}
	}
}

// asModel checks what all four functions say of any record against the model.
func asModel(t *testing.T, in api.Instr) api.Errno {
	t.Helper()
	e := modelCheck(in)
	if e != api.OK {
		isNone(t, in, e)
		return e
	}
	parcel, short := leastParcels[plain(in)]
	is(t, in, modelEncode(in), parcel, short)
	return e
}

// thereAndBack checks E5 of a record that there is; it answers whether a parcel says it too.
func thereAndBack(t *testing.T, in api.Instr) bool {
	t.Helper()
	raw, _ := encode.Encode(in)
	want := plain(in)
	want.Len, want.Raw = 4, raw
	if got := decode.Decode(raw); got != want {
		t.Errorf("E5: Decode of Encode(%+v), %#08x, is %+v", in, raw, got)
	}
	parcel, short := encode.Compress(in)
	if !short {
		return false
	}
	want.Len, want.Raw = 2, uint32(parcel)
	if got := decode.Decode(uint32(parcel)); got != want {
		t.Errorf("E5: Decode of Compress(%+v), %#04x, is %+v", in, parcel, got)
	}
	return true
}
