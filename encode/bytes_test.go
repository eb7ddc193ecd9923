package encode_test

import (
	"bytes"
	"sync"
	"testing"

	"anvil/api"
	"anvil/decode"
	"anvil/encode"
)

// TestE4Lengths: short asks for two bytes where there is a parcel; all else has four.
func TestE4Lengths(t *testing.T) {
	r := random(30)
	met := map[int]int{}
	for range 5000 {
		in := anyRecord(r, operations[r.IntN(len(operations))])
		if r.IntN(2) == 0 {
			in = shortRecords[r.IntN(len(shortRecords))]
		}
		if _, has := leastParcels[in]; has {
			met[2]++
		} else {
			met[4]++
		}
		asModel(t, in)
	}
	if met[2] < 1000 || met[4] < 1000 {
		t.Errorf("%d short ones, %d long ones: the test has grown idle", met[2], met[4])
	}
}

// TestE4Order: the lowest byte comes first.
func TestE4Order(t *testing.T) {
	for _, c := range []struct {
		in    api.Instr
		short bool
		want  []byte
	}{
		{api.Instr{Op: api.OpAddi, Rd: 1, Imm: 1}, true, []byte{0x85, 0x40}},
		{api.Instr{Op: api.OpAddi, Rd: 1, Imm: 1}, false, []byte{0x93, 0x00, 0x10, 0x00}},
		{api.Instr{Op: api.OpMret}, true, []byte{0x73, 0x00, 0x20, 0x30}},
		{api.Instr{Op: api.OpAmoswapD, Rd: 10, Rs1: 11, Rs2: 5, Aq: true, Rl: true}, true, []byte{0x2f, 0xb5, 0x55, 0x0e}},
		{api.Instr{Op: api.OpSd, Rs1: 2, Rs2: 31, Imm: 504}, true, []byte{0xfe, 0xff}},
	} {
		if got, e := encode.Bytes(c.in, c.short); !bytes.Equal(got, c.want) || e != api.OK {
			t.Errorf("E4: Bytes(%+v, %v) = %x, %d, want %x", c.in, c.short, got, e, c.want)
		}
	}
}

// TestRule3Bytes: what is answered is new memory: writing over it and over its spare room changes no other answer.
func TestRule3Bytes(t *testing.T) {
	for _, in := range []api.Instr{{Op: api.OpAddi}, {Op: api.OpLui, Rd: 2, Imm: 4096}} {
		for _, short := range []bool{false, true} {
			first, _ := encode.Bytes(in, short)
			second, _ := encode.Bytes(in, short)
			want := bytes.Clone(second)
			full := first[:cap(first)]
			for i := range full {
				full[i] ^= 0xff
			}
			third, _ := encode.Bytes(in, short)
			if !bytes.Equal(second, want) || !bytes.Equal(third, want) {
				t.Errorf("rule 3: Bytes(%+v, %v) shares its memory: %x, %x, want %x", in, short, second, third, want)
			}
		}
	}
}

// TestRule4Encode: the same each time, and from several goroutines at once.
func TestRule4Encode(t *testing.T) {
	r := random(31)
	var records []api.Instr
	for _, o := range operations {
		records = append(records, anyRecord(r, o))
	}
	for range 200 {
		records = append(records, shortRecords[r.IntN(len(shortRecords))])
	}
	var workers sync.WaitGroup
	for range 4 {
		workers.Go(func() {
			for _, in := range records {
				asModel(t, in)
			}
		})
	}
	workers.Wait()
}

// TestE7Low: the low two bits say the length.
func TestE7Low(t *testing.T) {
	r := random(32)
	for _, o := range operations {
		for range 50 {
			in := anyRecord(r, o)
			if raw, _ := encode.Encode(in); decode.Length(raw) != 4 {
				t.Errorf("E7: Encode(%+v) = %#08x has length %d", in, raw, decode.Length(raw))
			}
		}
	}
	for _, in := range shortRecords {
		if p, _ := encode.Compress(in); decode.Length(uint32(p)) != 2 {
			t.Errorf("E7: Compress(%+v) = %#04x has length %d", in, p, decode.Length(uint32(p)))
		}
	}
}

// cut is the records of a stream, by nothing but Length and Decode.
func cut(stream []byte) []api.Instr {
	var out []api.Instr
	for len(stream) > 0 {
		raw := uint32(0)
		for i := range min(4, len(stream)) {
			raw += uint32(stream[i]) << (8 * i)
		}
		out = append(out, plain(decode.Decode(raw)))
		stream = stream[min(len(stream), decode.Length(raw)):]
	}
	return out
}

// TestE7Streams: bytes of records one behind the other, long and short mixed, are cut into the same records.
func TestE7Streams(t *testing.T) {
	r := random(33)
	for range 60 {
		var records []api.Instr
		var stream []byte
		lengths := map[int]int{}
		for range 100 {
			in := anyRecord(r, operations[r.IntN(len(operations))])
			if r.IntN(2) == 0 {
				in = shortRecords[r.IntN(len(shortRecords))]
			}
			b, e := encode.Bytes(in, r.IntN(4) != 0)
			if e != api.OK {
				t.Fatalf("E4: Bytes(%+v): %d", in, e)
			}
			records, stream = append(records, in), append(stream, b...)
			lengths[len(b)]++
		}
		got := cut(stream)
		if len(got) != len(records) {
			t.Fatalf("E7: %d records were cut into %d", len(records), len(got))
		}
		for i, in := range records {
			if got[i] != in {
				t.Fatalf("E7: record %d, %+v, was cut as %+v", i, in, got[i])
			}
		}
		if lengths[2] < 10 || lengths[4] < 10 || len(lengths) != 2 {
			t.Fatalf("the stream has lengths %v: the test has grown idle", lengths)
		}
	}
}
