package save_test

import (
	"bytes"
	"math/rand/v2"
	"slices"
	"testing"

	"anvil/api"
	"anvil/save"
)

// fault is one thing that is wrong with a draft, and at which of P16.3's four places it is told.
type fault struct {
	name   string
	rank   int
	change func(d *draft)
}

// told is the error of a place.
func told(rank int) api.Errno {
	return [...]api.Errno{api.OK, api.ErrShape, api.ErrSum, api.ErrShape, api.ErrWhole}[rank]
}

// firstFaults is those of P16.3's 1 and 2.
func firstFaults() []fault {
	all := []fault{
		{"nothing but the head's bytes but one", 1, func(d *draft) { d.keep = 7 }},
		{"one byte and a sum", 1, func(d *draft) { d.keep = 1 }},
		{"72001 bytes", 1, func(d *draft) { d.end = make([]byte, maxSave+1-4-len(bare(*d))) }},
		{"100000 bytes", 1, func(d *draft) { d.end = make([]byte, 100000) }},
		{"a sum of one bit turned", 2, func(d *draft) { d.turn = 1 }},
		{"a sum of its last bit turned", 2, func(d *draft) { d.turn = 1 << 31 }},
		{"a sum of all bits turned", 2, func(d *draft) { d.turn = 0xffffffff }},
	}
	for i := range 8 {
		all = append(all, fault{"another head", 1, func(d *draft) { d.head = put(d.head, i, 1, uint64(d.head[i]^1)) }})
		all = append(all, fault{"another head", 1, func(d *draft) { d.head = put(d.head, i, 1, uint64(d.head[i]^0x80)) }})
	}
	return all
}

// bare is the bytes of a draft up to its pages' end, which is not among them.
func bare(d draft) []byte {
	d.end, d.keep = nil, 0
	b := d.bytes()
	return b[:len(b)-4]
}

// formFaults is those of P16.3's 3.
func formFaults() []fault {
	full := bytes.Repeat([]byte{9}, 256)
	return []fault{
		{"the head alone", 3, func(d *draft) { d.keep = 8 }},
		{"an end in the midst of the Cpu", 3, func(d *draft) { d.keep = 300 }},
		{"an end behind the Cpu", 3, func(d *draft) { d.keep = 524 }},
		{"an end in the midst of the devices", 3, func(d *draft) { d.keep = 540 }},
		{"Waiting 2", 3, func(d *draft) { d.cpu.Waiting = 2 }},
		{"Waiting 255", 3, func(d *draft) { d.cpu.Waiting = 255 }},
		{"Res.Valid 2", 3, func(d *draft) { d.cpu.Valid = 2 }},
		{"Res.Valid 129", 3, func(d *draft) { d.cpu.Valid = 129 }},
		{"Ext 2", 3, func(d *draft) { d.devices.Ext = 2 }},
		{"Ext 3", 3, func(d *draft) { d.devices.Ext = 3 }},
		{"Soft 2", 3, func(d *draft) { d.devices.Soft = 2 }},
		{"Soft 128", 3, func(d *draft) { d.devices.Soft = 128 }},
		{"Overrun 2", 3, func(d *draft) { d.devices.Overrun = 2 }},
		{"Overrun 255", 3, func(d *draft) { d.devices.Overrun = 255 }},
		{"65 bytes of Input", 3, func(d *draft) { d.inputs, d.input = 65, make([]byte, 65) }},
		{"255 bytes of Input", 3, func(d *draft) { d.inputs, d.input = 255, make([]byte, 255) }},
		{"4097 bytes of Output", 3, func(d *draft) { d.outputs, d.output = 4097, make([]byte, 4097) }},
		{"65535 bytes of Output", 3, func(d *draft) { d.outputs, d.output = 65535, make([]byte, 65535) }},
		{"RAM of 0", 3, func(d *draft) { d.size, d.pages = 0, nil }},
		{"RAM of 4", 3, func(d *draft) { d.size, d.pages = 4, nil }},
		{"RAM of 12", 3, func(d *draft) { d.size, d.pages = 12, nil }},
		{"RAM of 1001", 3, func(d *draft) { d.size = 1001 }},
		{"RAM of 65537", 3, func(d *draft) { d.size, d.pages = 65537, nil }},
		{"RAM of 65544", 3, func(d *draft) { d.size, d.pages = 65544, nil }},
		{"RAM of 2^31", 3, func(d *draft) { d.size, d.pages = 1<<31, nil }},
		{"RAM of 2^32 - 8", 3, func(d *draft) { d.size, d.pages = 1<<32-8, nil }},
		{"a page that falls", 3, func(d *draft) { d.size, d.pages = 1000, []pagePart{{2, full}, {1, full}} }},
		{"a page that falls to 0", 3, func(d *draft) { d.size, d.pages = 1000, []pagePart{{0, full}, {1, full}, {0, full}} }},
		{"a page twice", 3, func(d *draft) { d.size, d.pages = 1000, []pagePart{{1, full}, {1, full}} }},
		{"page 0 twice", 3, func(d *draft) { d.size, d.pages = 1000, []pagePart{{0, full}, {0, full}} }},
		{"page 4 of 1000 bytes", 3, func(d *draft) { d.size, d.pages = 1000, []pagePart{{4, full}} }},
		{"page 4 of 1024 bytes", 3, func(d *draft) { d.size, d.pages = 1024, []pagePart{{4, full}} }},
		{"page 1 of 256 bytes", 3, func(d *draft) { d.size, d.pages = 256, []pagePart{{1, nil}} }},
		{"page 256 of 65536 bytes", 3, func(d *draft) { d.size, d.pages = maxRam, []pagePart{{256, full}} }},
		{"page 65534", 3, func(d *draft) { d.size, d.pages = maxRam, []pagePart{{65534, full}} }},
		{"page 32768", 3, func(d *draft) { d.size, d.pages = maxRam, []pagePart{{32768, full}} }},
		{"a page of zeros", 3, func(d *draft) { d.size, d.pages = 1000, []pagePart{{1, make([]byte, 256)}} }},
		{"a page of zeros behind another", 3, func(d *draft) { d.size, d.pages = 1000, []pagePart{{0, full}, {1, make([]byte, 256)}} }},
		{"a short page of zeros", 3, func(d *draft) { d.size, d.pages = 1000, []pagePart{{3, make([]byte, 232)}} }},
		{"a short page that is long", 3, func(d *draft) { d.size, d.pages = 1000, []pagePart{{3, full}} }},
		{"a long page that is short", 3, func(d *draft) { d.size, d.pages = 1000, []pagePart{{2, full[:232]}} }},
		{"no end of the pages", 3, func(d *draft) { d.end = nil }},
		{"half an end of the pages", 3, func(d *draft) { d.end = []byte{0xff} }},
		{"a byte behind the end", 3, func(d *draft) { d.end = []byte{0xff, 0xff, 0} }},
		{"two ends", 3, func(d *draft) { d.end = []byte{0xff, 0xff, 0xff, 0xff} }},
		{"a page behind the end", 3, func(d *draft) { d.end = slices.Concat([]byte{0xff, 0xff, 3, 0}, full[:232], []byte{0xff, 0xff}) }},
		{"a snapshot of 72000 bytes", 3, func(d *draft) { d.end = append([]byte{0xff, 0xff}, make([]byte, maxSave-6-len(bare(*d)))...) }},
	}
}

// cpuFaults is the Cpus that are not proper, of P16.3's 4.
func cpuFaults() []fault {
	all := []fault{
		{"an odd Pc", 4, func(d *draft) { d.cpu.Pc |= 1 }},
		{"X[0] of 1", 4, func(d *draft) { d.cpu.X[0] = 1 }},
		{"X[0] of 2^63", 4, func(d *draft) { d.cpu.X[0] = 1 << 63 }},
		{"Mode 1", 4, func(d *draft) { d.cpu.Mode = 1 }},
		{"Mode 2", 4, func(d *draft) { d.cpu.Mode = 2 }},
		{"Mode 4", 4, func(d *draft) { d.cpu.Mode = 4 }},
		{"Mode 255", 4, func(d *draft) { d.cpu.Mode = 255 }},
		{"Mstatus 0", 4, func(d *draft) { d.cpu.Mstatus = 0 }},
		{"UXL 1", 4, func(d *draft) { d.cpu.Mstatus = 1 << 32 }},
		{"UXL 3", 4, func(d *draft) { d.cpu.Mstatus |= 3 << 32 }},
		{"MPP 1", 4, func(d *draft) { d.cpu.Mstatus = uxl | 1<<11 }},
		{"MPP 2", 4, func(d *draft) { d.cpu.Mstatus = uxl | 2<<11 }},
		{"Mstatus's bit 0", 4, func(d *draft) { d.cpu.Mstatus |= 1 }},
		{"Mstatus's bit 63", 4, func(d *draft) { d.cpu.Mstatus |= 1 << 63 }},
		{"Mtvec's bit 1", 4, func(d *draft) { d.cpu.Mtvec |= 2 }},
		{"Mie's bit 0", 4, func(d *draft) { d.cpu.Mie |= 1 }},
		{"Mie's bit 12", 4, func(d *draft) { d.cpu.Mie |= 1 << 12 }},
		{"Mcounteren 8", 4, func(d *draft) { d.cpu.Mcounteren |= 8 }},
		{"Mcountinhibit's bit 1", 4, func(d *draft) { d.cpu.Mcountinhibit |= 2 }},
		{"Menvcfg's bit 1", 4, func(d *draft) { d.cpu.Menvcfg |= 2 }},
		{"an odd Mepc", 4, func(d *draft) { d.cpu.Mepc |= 1 }},
		{"a Res that is none, with an address", 4, func(d *draft) { d.cpu.Valid, d.cpu.ResAddr, d.cpu.ResSize = 0, 8, 0 }},
		{"a Res that is none, with a size", 4, func(d *draft) { d.cpu.Valid, d.cpu.ResAddr, d.cpu.ResSize = 0, 0, 8 }},
		{"a Res of size 0", 4, func(d *draft) { d.cpu.Valid, d.cpu.ResSize = 1, 0 }},
		{"a Res of size 2", 4, func(d *draft) { d.cpu.Valid, d.cpu.ResSize = 1, 2 }},
		{"a Res of size 16", 4, func(d *draft) { d.cpu.Valid, d.cpu.ResAddr, d.cpu.ResSize = 1, 16, 16 }},
		{"a Res of 8 at 4", 4, func(d *draft) { d.cpu.Valid, d.cpu.ResAddr, d.cpu.ResSize = 1, 4, 8 }},
		{"a Res of 4 at 2", 4, func(d *draft) { d.cpu.Valid, d.cpu.ResAddr, d.cpu.ResSize = 1, 2, 4 }},
	}
	for _, i := range []int{0, 7, 15} {
		all = append(all,
			fault{"W without R", 4, func(d *draft) { d.cpu.Cfg[i] = 2 }},
			fault{"bit 5 of an entry", 4, func(d *draft) { d.cpu.Cfg[i] |= 0x20 }},
			fault{"bit 6 of an entry", 4, func(d *draft) { d.cpu.Cfg[i] |= 0x40 }},
			fault{"an entry's address of 55 bits", 4, func(d *draft) { d.cpu.Addr[i] |= 1 << 54 }},
			fault{"an entry's address of 64 bits", 4, func(d *draft) { d.cpu.Addr[i] |= 1 << 63 }},
		)
	}
	return all
}

// busFaults is the states of a bus that cannot be, of P16.3's 4.
func busFaults() []fault {
	return []fault{
		{"Msip 2", 4, func(d *draft) { d.devices.Msip = 2 }},
		{"Msip 2^31", 4, func(d *draft) { d.devices.Msip = 1 << 31 }},
		{"Ier 16", 4, func(d *draft) { d.devices.Ier = 16 }},
		{"Ier 255", 4, func(d *draft) { d.devices.Ier = 255 }},
		{"Mcr 32", 4, func(d *draft) { d.devices.Mcr = 32 }},
		{"Mcr 255", 4, func(d *draft) { d.devices.Mcr = 255 }},
		{"Off 3", 4, func(d *draft) { d.devices.Power, d.devices.Code = 3, 0 }},
		{"Off 255", 4, func(d *draft) { d.devices.Power, d.devices.Code = 255, 0 }},
		{"Running and Code 1", 4, func(d *draft) { d.devices.Power, d.devices.Code = 0, 1 }},
		{"Passed and Code 1", 4, func(d *draft) { d.devices.Power, d.devices.Code = 1, 1 }},
		{"Failed and Code 65536", 4, func(d *draft) { d.devices.Power, d.devices.Code = 2, 65536 }},
		{"Failed and Code 2^31", 4, func(d *draft) { d.devices.Power, d.devices.Code = 2, 1<<31 }},
		{"Failed and Code 2^32 - 1", 4, func(d *draft) { d.devices.Power, d.devices.Code = 2, 1<<32-1 }},
	}
}

func faults() []fault {
	return slices.Concat(firstFaults(), formFaults(), cpuFaults(), busFaults())
}

// TestP16_3Faults: each fault alone, with the sum put right where the fault lies behind it.
func TestP16_3Faults(t *testing.T) {
	for _, w := range []api.Whole{least(), rich()} {
		if got := loaded(t, drafted(w).bytes()); !same(got, api.Whole{Cpu: proper(w.Cpu), Bus: w.Bus}) {
			t.Errorf("P16.3: without a fault the whole is\n%+v", got)
		}
		for _, f := range faults() {
			d := drafted(w)
			f.change(&d)
			refused(t, f.name, d.bytes(), told(f.rank))
		}
	}
}

// TestP16_3Two: of two faults the first in the order is told.
func TestP16_3Two(t *testing.T) {
	for _, a := range faults() {
		for _, b := range faults() {
			if a.rank >= b.rank {
				continue
			}
			d := drafted(rich())
			b.change(&d)
			a.change(&d)
			refused(t, a.name+", "+b.name, d.bytes(), told(a.rank))
		}
	}
}

// TestP16_3Short: less than 12 bytes, whatever they are.
func TestP16_3Short(t *testing.T) {
	head := drafted(least()).head
	for n := range 12 {
		refused(t, "a beginning", saved(t, least())[:n], api.ErrShape)
		refused(t, "zeros", make([]byte, n), api.ErrShape)
		if n >= 4 {
			refused(t, "a head with its sum", summed(append(bytes.Clone(head), 0, 0, 0, 0)[:n-4]), api.ErrShape)
		}
	}
	refused(t, "twelve zeros", make([]byte, 12), api.ErrShape)
	refused(t, "a head and no sum", append(bytes.Clone(head), 0, 0, 0, 0), api.ErrSum)
	refused(t, "a head and its sum", summed(head), api.ErrShape)
}

// TestP16_3Long: up to 72000 bytes the sum is looked at, of one more it is not.
func TestP16_3Long(t *testing.T) {
	for n, want := range map[int]api.Errno{longest + 1: api.ErrSum, maxSave - 1: api.ErrSum, maxSave: api.ErrSum, maxSave + 1: api.ErrShape, 2 * maxSave: api.ErrShape} {
		b := append(saved(t, greatest()), make([]byte, n-longest)...)
		refused(t, "zeros behind a snapshot", b, want)
		refused(t, "zeros behind a snapshot, and its sum", resummed(b), api.ErrShape)
		refused(t, "no head", make([]byte, n), api.ErrShape)
	}
}

// TestP16_3Beginnings: no proper beginning of a snapshot is one, with its own last bytes as the sum or with the right one; nor is one with a byte more.
func TestP16_3Beginnings(t *testing.T) {
	for _, w := range []api.Whole{least(), rich()} {
		b := saved(t, w)
		body := b[:len(b)-4]
		for n := range len(b) {
			want := api.ErrSum
			if n < 12 {
				want = api.ErrShape
			}
			refused(t, "a beginning", b[:n], want)
		}
		for n := range len(body) {
			refused(t, "a beginning with its sum", summed(body[:n]), api.ErrShape)
		}
		for v := range 256 {
			refused(t, "a byte behind the sum", append(bytes.Clone(b), byte(v)), api.ErrSum)
			refused(t, "a byte ahead of the sum", summed(append(bytes.Clone(body), byte(v))), api.ErrShape)
		}
	}
}

// TestP16_3Flags: of each flag's byte 0 and 1 alone are of the form.
func TestP16_3Flags(t *testing.T) {
	b := saved(t, rich())
	for _, at := range []int{273, 514, 544, 545, 550} {
		for v := range 256 {
			flagged := resummed(put(b, at, 1, uint64(v)))
			switch {
			case v > 1:
				refused(t, "a flag", flagged, api.ErrShape)
			case at == 514 && v == 0:
				refused(t, "a Res that is none, with an address", flagged, api.ErrWhole)
			default:
				loaded(t, flagged)
			}
		}
	}
}

// TestP16_3Pages: of three pages in any order, each of them any number, those that rise and are there are taken.
func TestP16_3Pages(t *testing.T) {
	full := bytes.Repeat([]byte{1}, 256)
	numbers := []uint16{0, 1, 2, 3, 4, 255, 256, 257, 0x7fff, 0xfffe}
	for _, a := range numbers {
		for _, b := range numbers {
			for _, c := range numbers {
				d := drafted(rich())
				d.size, d.pages = 1024, []pagePart{{a, full}, {b, full}, {c, full}}
				if a >= b || b >= c || c > 3 {
					refused(t, "pages", d.bytes(), api.ErrShape)
					continue
				}
				w := loaded(t, d.bytes())
				for i := range w.Bus.Ram {
					if n := uint16(i / 256); (n == a || n == b || n == c) != (w.Bus.Ram[i] == 1) {
						t.Fatalf("P16.3: of pages %d, %d, %d byte %d is %d", a, b, c, i, w.Bus.Ram[i])
					}
				}
			}
		}
	}
}

// TestP16_3Lengths: of RAM's lengths the multiples of 8 from 8 to 65536 alone are of the form.
func TestP16_3Lengths(t *testing.T) {
	d := drafted(least())
	for size := range uint32(maxRam + 100) {
		d.size = size
		if size%8 != 0 || size < 8 || size > maxRam {
			refused(t, "a length of RAM", d.bytes(), api.ErrShape)
		} else if size%1024 == 8 || size%1024 == 0 {
			if n := len(loaded(t, d.bytes()).Bus.Ram); n != int(size) {
				t.Errorf("P16.3: RAM of %d bytes has %d", size, n)
			}
		}
	}
}

// TestP16_3Counts: each number of Input's bytes, and many of Output's.
func TestP16_3Counts(t *testing.T) {
	for n := range 256 {
		d := drafted(least())
		d.inputs, d.input = uint8(n), bytes.Repeat([]byte{7}, n)
		if n > maxInput {
			refused(t, "much Input", d.bytes(), api.ErrShape)
		} else if w := loaded(t, d.bytes()); !bytes.Equal(w.Bus.Input, d.input) {
			t.Errorf("P16.3: Input is % x, want % x", w.Bus.Input, d.input)
		}
	}
	for _, n := range []int{0, 1, 255, 256, 257, 4095, 4096, 4097, 4098, 8192, 32768, 65535} {
		d := drafted(least())
		d.outputs, d.output = uint16(n), bytes.Repeat([]byte{7}, n)
		if n > maxOutput {
			refused(t, "much Output", d.bytes(), api.ErrShape)
		} else if w := loaded(t, d.bytes()); !bytes.Equal(w.Bus.Output, d.output) {
			t.Errorf("P16.3: Output has %d bytes, want %d", len(w.Bus.Output), n)
		}
	}
}

// asModel holds Load of any bytes against the model, and what it takes against Save. It answers the error.
func asModel(t *testing.T, b []byte) api.Errno {
	t.Helper()
	got, e := save.Load(b)
	want, errno := modelLoad(b)
	if e != errno || !same(got, want) {
		t.Fatalf("P16.3: Load answers error %d, want %d, and\n%+v, want\n%+v, of\n% x", e, errno, got, want, b)
	}
	if e == api.OK && !bytes.Equal(saved(t, got), b) {
		t.Fatalf("P16.4: saved again it is another than\n% x", b)
	}
	return e
}

// anySpoilt is a snapshot of any whole with some of its bytes changed, cut out or put in.
func anySpoilt(r *rand.Rand, b []byte) []byte {
	for range r.IntN(4) {
		if len(b) == 0 {
			return b
		}
		at := r.IntN(len(b))
		if r.IntN(2) == 0 {
			at = min(len(b)-1, 500+r.IntN(80))
		}
		switch r.IntN(8) {
		case 0:
			b = slices.Delete(b, at, min(len(b), at+1+r.IntN(8)))
		case 1:
			b = slices.Insert(b, at, anyBytes(r, 1+r.IntN(8))...)
		case 2:
			b[at] ^= 1 << r.IntN(8)
		default:
			b[at] = one[byte](r, 0, 0, 1, 1, 2, 3, 8, 255, byte(r.Uint32()))
		}
	}
	return b
}

// TestP16_3Any: snapshots that are spoilt in any way, mostly with the sum put right.
func TestP16_3Any(t *testing.T) {
	r := random(4)
	count := map[api.Errno]int{}
	for range 20000 {
		w := anyWhole(r)
		if len(w.Bus.Ram) > 2000 || len(w.Bus.Output) > 300 {
			w.Bus.Ram, w.Bus.Output = w.Bus.Ram[:8], nil
		}
		b := saved(t, w)
		if r.IntN(8) == 0 {
			b = anySpoilt(r, b)
		} else {
			b = summed(anySpoilt(r, b[:len(b)-4]))
		}
		count[asModel(t, b)]++
	}
	for _, e := range []api.Errno{api.OK, api.ErrShape, api.ErrSum, api.ErrWhole} {
		if count[e] < 500 {
			t.Errorf("%d times error %d: too few to tell", count[e], e)
		}
	}
}

// TestP16_3EachByte: each byte of a snapshot changed to some others, with the sum put right.
func TestP16_3EachByte(t *testing.T) {
	for _, w := range []api.Whole{least(), rich()} {
		b := saved(t, w)
		for at := range len(b) - 4 {
			for _, v := range []byte{0, 1, 2, 3, 4, 7, 8, 15, 16, 31, 32, 64, 65, 128, 255} {
				asModel(t, resummed(put(b, at, 1, uint64(v))))
			}
		}
	}
}

// TestP16_3Noise: bytes of any kind, with and without a head and a sum.
func TestP16_3Noise(t *testing.T) {
	r := random(5)
	head := drafted(least()).head
	for n := range 1200 {
		b := anyBytes(r, n)
		asModel(t, b)
		asModel(t, append(bytes.Clone(head), b...))
		asModel(t, summed(append(bytes.Clone(head), b...)))
		asModel(t, summed(append(bytes.Clone(head), make([]byte, n)...)))
	}
}
