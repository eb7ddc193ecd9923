package image_test

import (
	"bytes"
	"strconv"
	"testing"

	"anvil/api"
	"anvil/image"
)

func TestP2_2FileTooLong(t *testing.T) {
	long := api.Image{Segs: []api.Seg{{Size: 1 << 20, Data: make([]byte, 200000-120)}}}
	b := written(t, long)
	if len(b) != 200000 {
		t.Fatalf("the file has %d bytes", len(b))
	}
	wantImage(t, "P2.2: MaxFile bytes", b, long)
	wantFault(t, "P2.2: MaxFile + 1 bytes", append(b, 0), api.ErrLong, 200000)
	wantFault(t, "P2.2: MaxFile + 1 bytes that are no file", make([]byte, 200001), api.ErrLong, 200000)
	wantFault(t, "P2.2: MaxFile bytes that are no file", make([]byte, 200000), api.ErrMagic, 0)
}

func TestP2_2FirstBytes(t *testing.T) {
	head := written(t, api.Image{})
	for n := range 64 {
		wantFault(t, "P2.2: "+strconv.Itoa(n)+" bytes", head[:n], api.ErrEnd, n)
	}
	for at := range 7 {
		for v := range 256 {
			if byte(v) == head[at] {
				continue
			}
			b := patched(head, patch{at, 1, uint64(v)})
			wantFault(t, "P2.2: another first byte", b, api.ErrMagic, at)
			wantFault(t, "P2.2: another first byte, and the end", b[:at+1], api.ErrMagic, at)
			wantFault(t, "P2.2: the end ahead of it", b[:at], api.ErrEnd, at)
		}
	}
}

// headFaults stand in the order of 2.2, points 3 to 5.
func headFaults() []struct {
	patch
	why api.Errno
	at  int
} {
	type fault = struct {
		patch
		why api.Errno
		at  int
	}
	return []fault{
		{patch{16, 2, 3}, api.ErrMagic, 16},
		{patch{18, 2, 62}, api.ErrMagic, 18},
		{patch{20, 4, 2}, api.ErrMagic, 20},
		{patch{24, 8, 0x80000001}, api.ErrHeader, 24},
		{patch{48, 4, 2}, api.ErrHeader, 48},
		{patch{52, 2, 63}, api.ErrHeader, 52},
		{patch{54, 2, 57}, api.ErrHeader, 54},
		{patch{56, 2, 17}, api.ErrMany, 56},
		{patch{32, 8, richSize + 1}, api.ErrEnd, 32},
		{patch{richPrograms + 4, 4, 8}, api.ErrSegment, richPrograms + 4},
		{patch{richPrograms + 32, 8, 6}, api.ErrSegment, richPrograms + 32},
		{patch{richPrograms + 8, 8, richSize - 4}, api.ErrEnd, richPrograms + 8},
		{patch{richPrograms + 24, 8, last - 3}, api.ErrSegment, richPrograms + 24},
		{patch{richPrograms + 56 + 24, 8, 0x1004}, api.ErrOverlap, richPrograms + 56 + 24},
		{patch{richPrograms + 112 + 4, 4, 1 << 31}, api.ErrSegment, richPrograms + 112 + 4},
		{patch{58, 2, 65}, api.ErrHeader, 58},
		{patch{40, 8, richSections + 1}, api.ErrEnd, 40},
		{patch{richSections + 64 + 56, 8, 25}, api.ErrSymbol, richSections + 64 + 56},
		{patch{richSections + 64 + 32, 8, 119}, api.ErrSymbol, richSections + 64 + 32},
		{patch{richSections + 64 + 24, 8, richSize - 119}, api.ErrEnd, richSections + 64 + 24},
		{patch{richSections + 64 + 40, 4, 4}, api.ErrSymbol, richSections + 64 + 40},
		{patch{richSections + 128 + 24, 8, richSize - 18}, api.ErrEnd, richSections + 128 + 24},
		{patch{richTable + 24, 4, 19}, api.ErrSymbol, richTable + 24},
		{patch{richTable + 96, 4, 19}, api.ErrSymbol, richTable + 96},
	}
}

// Every fault at its place; and of two in one file the first is told.
func TestP2_2Order(t *testing.T) {
	b := richFile(t)
	wantImage(t, "P2.2: no fault", b, rich())
	faults := headFaults()
	for i, first := range faults {
		what := "P2.2: fault " + strconv.Itoa(i)
		wantFault(t, what, patched(b, first.patch), first.why, first.at)
		for j, second := range faults[i+1:] {
			if first.patch.at == 40 { // the later faults would lie elsewhere
				continue
			}
			wantFault(t, what+" and fault "+strconv.Itoa(i+1+j), patched(b, second.patch, first.patch), first.why, first.at)
		}
	}
}

func TestP2_2Head(t *testing.T) {
	b := richFile(t)
	for _, bit := range []int{0, 1, 7, 8, 15, 16, 31} { // whole halves and words are compared
		if bit < 16 {
			wantFault(t, "P2.2: the kind", patched(b, patch{16, 2, 2 ^ 1<<bit}), api.ErrMagic, 16)
			wantFault(t, "P2.2: the machine", patched(b, patch{18, 2, 243 ^ 1<<bit}), api.ErrMagic, 18)
			wantFault(t, "P2.2: the head's size", patched(b, patch{52, 2, 64 ^ 1<<bit}), api.ErrHeader, 52)
			wantFault(t, "P2.2: a program header's size", patched(b, patch{54, 2, 56 ^ 1<<bit}), api.ErrHeader, 54)
			wantFault(t, "P2.2: a section header's size", patched(b, patch{58, 2, 64 ^ 1<<bit}), api.ErrHeader, 58)
		}
		wantFault(t, "P2.2: the version", patched(b, patch{20, 4, 1 ^ 1<<bit}), api.ErrMagic, 20)
	}
	wantImage(t, "P2.2: flags 0", patched(b, patch{48, 4, 0}), rich())
	for _, v := range []uint64{2, 3, 0x100, 0x10001, 1 << 31, 1<<32 - 1} {
		wantFault(t, "P2.2: flags", patched(b, patch{48, 4, v}), api.ErrHeader, 48)
	}
	wantFault(t, "P2.2: the last odd entry", patched(b, patch{24, 8, last}), api.ErrHeader, 24)
	entry := rich()
	entry.Entry = last - 1
	wantImage(t, "P2.2: the last even entry", patched(b, patch{24, 8, last - 1}), entry)
}

func TestP2_2ProgramHeadersPlace(t *testing.T) {
	b := richFile(t)
	for _, place := range []uint64{richSize - 167, richSize, last, last - 55, last - 167, 1 << 63, 1 << 32} {
		wantFault(t, "P2.2: headers beyond the end", patched(b, patch{32, 8, place}), api.ErrEnd, 32)
	}
	moved := append(bytes.Clone(b), b[richPrograms:richPrograms+168]...) // up to the very end
	wantImage(t, "P2.2: headers at the end", patched(moved, patch{32, 8, richSize}), rich())
	wantFault(t, "P2.2: headers at the end, cut", patched(moved[:len(moved)-1], patch{32, 8, richSize}), api.ErrEnd, 32)

	head := written(t, api.Image{Entry: 4})
	for _, place := range []uint64{0, 1, 63, 64} {
		wantImage(t, "P2.2: no headers, within the file", patched(head, patch{32, 8, place}), api.Image{Entry: 4})
	}
	for _, place := range []uint64{65, 1 << 32, last} {
		wantFault(t, "P2.2: no headers, beyond the file", patched(head, patch{32, 8, place}), api.ErrEnd, 32)
	}
	wantImage(t, "P2.3: no headers: their size", patched(head, patch{54, 2, 1}), api.Image{Entry: 4})
	for _, count := range []uint64{17, 256, 65535} {
		wantFault(t, "P2.2: too many headers", patched(head, patch{56, 2, count}), api.ErrMany, 56)
	}
	wantFault(t, "P2.2: 16 headers, no room", patched(head, patch{56, 2, 16}), api.ErrEnd, 32)
	full := parts(manyParts(16)...)
	wantImage(t, "P2.2: 16 headers", written(t, full), full)
}

func TestP2_2Rights(t *testing.T) {
	b := written(t, parts(api.Seg{Addr: 8, Size: 1}))
	for bits := range 8 {
		want := api.Seg{Addr: 8, Size: 1}
		if bits&1 != 0 {
			want.Flags += api.X
		}
		if bits&2 != 0 {
			want.Flags += api.W
		}
		if bits&4 != 0 {
			want.Flags += api.R
		}
		wantImage(t, "P2.2: rights", patched(b, patch{68, 4, uint64(bits)}), parts(want))
	}
	for _, v := range []uint64{8, 9, 0x100, 1 << 31, 1<<32 - 1} {
		wantFault(t, "P2.2: rights", patched(b, patch{68, 4, v}), api.ErrSegment, 68)
	}
}

func TestP2_2Data(t *testing.T) {
	b := written(t, parts(api.Seg{Addr: 8, Size: 9, Data: []byte("abc")})) // 123 bytes
	part := func(place, length, size uint64) []byte {
		return patched(b, patch{72, 8, place}, patch{96, 8, length}, patch{104, 8, size})
	}
	got := func(size uint64, data []byte) api.Image { return parts(api.Seg{Addr: 8, Size: size, Data: data}) }
	wantImage(t, "P2.2: from the first byte on", part(0, 4, 9), got(9, []byte("\x7fELF")))
	wantImage(t, "P2.2: the last byte", part(122, 1, 1), got(1, []byte("c")))
	wantImage(t, "P2.2: the whole file", part(0, 123, 123), got(123, part(0, 123, 123)))
	wantImage(t, "P2.2: no Data, at the end", part(123, 0, 1), got(1, nil))
	wantFault(t, "P2.2: no Data, beyond the end", part(124, 0, 1), api.ErrEnd, 72)
	wantFault(t, "P2.2: no Data, far beyond", part(last, 0, 1), api.ErrEnd, 72)
	wantFault(t, "P2.2: one more than there is", part(120, 4, 9), api.ErrEnd, 72)
	wantFault(t, "P2.2: more than the file", part(0, 124, 124), api.ErrEnd, 72)
	wantFault(t, "P2.2: a sum beyond 2^64", part(last, 1, 9), api.ErrEnd, 72)
	wantFault(t, "P2.2: a sum of 2^64 and 3", part(last-3, 7, 9), api.ErrEnd, 72)
	wantFault(t, "P2.2: a sum of two great ones", part(1<<63, 1<<63, 1<<63), api.ErrEnd, 72)
	wantFault(t, "P2.2: the greatest length", part(1, last, last), api.ErrEnd, 72)
	wantFault(t, "P2.2: longer than the size", part(120, 3, 2), api.ErrSegment, 96)
	wantFault(t, "P2.2: longer than no size", part(120, 1, 0), api.ErrSegment, 96)
	wantFault(t, "P2.2: far longer than the size", part(120, last, 9), api.ErrSegment, 96)
	wantImage(t, "P2.2: no size at all", part(last, 0, 0), api.Image{})
}

func TestP2_2Addresses(t *testing.T) {
	b := written(t, parts(api.Seg{Size: 1}))
	part := func(addr, size uint64) []byte { return patched(b, patch{88, 8, addr}, patch{104, 8, size}) }
	for _, c := range []struct{ addr, size uint64 }{{last, 1}, {last - 1, 2}, {0, last}, {1, last}, {1 << 63, 1 << 63}} {
		wantImage(t, "P2.2: up to the last address", part(c.addr, c.size), parts(api.Seg{Addr: c.addr, Size: c.size}))
	}
	for _, c := range []struct{ addr, size uint64 }{{last, 2}, {last, last}, {2, last}, {1 << 63, 1<<63 + 1}} {
		wantFault(t, "P2.2: beyond the last address", part(c.addr, c.size), api.ErrSegment, 88)
	}
}

func TestP2_2PartsMeet(t *testing.T) {
	b := written(t, parts(api.Seg{Addr: 0, Size: 1}, api.Seg{Addr: 8, Size: 1}, api.Seg{Addr: 16, Size: 1}))
	place := func(i int, addr, size uint64) []patch {
		return []patch{{64 + 56*i + 24, 8, addr}, {64 + 56*i + 40, 8, size}}
	}
	two := func(a, sizeA, b2, sizeB uint64) []byte {
		x := patched(b, patch{56, 2, 2})
		return patched(patched(x, place(0, a, sizeA)...), place(1, b2, sizeB)...)
	}
	second := 64 + 56 + 24
	wantFault(t, "P2.2: example 5", two(0x1000, 16, 0x1008, 1), api.ErrOverlap, second)
	wantFault(t, "P2.2: the first lies in the second", two(0x1008, 1, 0x1000, 16), api.ErrOverlap, second)
	wantFault(t, "P2.2: the last byte is the first", two(0x1000, 16, 0x100f, 16), api.ErrOverlap, second)
	wantFault(t, "P2.2: the first byte is the last", two(0x100f, 16, 0x1000, 16), api.ErrOverlap, second)
	wantFault(t, "P2.2: the same", two(7, 7, 7, 7), api.ErrOverlap, second)
	wantFault(t, "P2.2: meeting at the last address", two(last, 1, 1, last), api.ErrOverlap, second)
	wantImage(t, "P2.2: side by side", two(0x1000, 16, 0x1010, 1), parts(api.Seg{Addr: 0x1000, Size: 16}, api.Seg{Addr: 0x1010, Size: 1}))
	wantImage(t, "P2.2: falling", two(0x1010, 1, 0x1000, 16), parts(api.Seg{Addr: 0x1000, Size: 16}, api.Seg{Addr: 0x1010, Size: 1}))
	wantImage(t, "P2.2: the last address and the first", two(last, 1, 0, 1), parts(api.Seg{Size: 1}, api.Seg{Addr: last, Size: 1}))

	third := patched(b, place(2, 0, 9)...)
	wantFault(t, "P2.2: the third meets both", third, api.ErrOverlap, 64+112+24)
	wantImage(t, "P2.2: a note between is passed over", patched(third, patch{64, 4, 4}, patch{64 + 56, 4, 4}), parts(api.Seg{Size: 9}))
	mixed := patched(patched(patched(b, place(0, 50, 5)...), place(1, 90, 5)...), place(2, 10, 5)...)
	wantImage(t, "P2.2: parts are sorted", mixed, parts(api.Seg{Addr: 10, Size: 5}, api.Seg{Addr: 50, Size: 5}, api.Seg{Addr: 90, Size: 5}))
}

// What is passed over may be as wrong as it likes.
func TestP2_2PassedOver(t *testing.T) {
	b := richFile(t)
	want := rich()
	want.Segs = want.Segs[1:]
	h := richPrograms
	for _, kind := range []uint64{0, 2, 4, 6, 0x101, 0x10001, 0x70000003, 1<<32 - 1} {
		wrong := patched(b, patch{h, 4, kind}, patch{h + 4, 4, 8}, patch{h + 8, 8, last}, patch{h + 24, 8, last}, patch{h + 32, 8, last}, patch{h + 40, 8, 9})
		wantImage(t, "P2.2: a header of another kind", wrong, want)
	}
	wantImage(t, "P2.2: no size", patched(b, patch{h + 4, 4, 8}, patch{h + 8, 8, last}, patch{h + 24, 8, last}, patch{h + 32, 8, 0}, patch{h + 40, 8, 0}), want)
	zeros := rich()
	zeros.Segs[0].Data = nil
	wantImage(t, "P2.2: a size, no Data", patched(b, patch{h + 32, 8, 0}), zeros)
}

// The program and the oracle read the same out of files with a few changes.
func TestP2_2Changed(t *testing.T) {
	r := dice(1)
	base := [][]byte{richFile(t), written(t, parts(manyParts(3)...)), written(t, names(manyNames(7)...)), written(t, api.Image{})}
	for range 60 {
		base = append(base, written(t, randomImage(r)))
	}
	values := []uint64{0, 1, 2, 3, 4, 5, 7, 8, 16, 17, 23, 24, 25, 48, 56, 63, 64, 65, 120, 243, 255, 0xfff1, 65535, 1 << 31, 1<<32 - 1, 1 << 63, last, last - 23, last - 55, last - 63}
	found := map[api.Errno]int{}
	for range 60000 {
		b := bytes.Clone(base[r.IntN(len(base))])
		for range 1 + r.IntN(3) {
			size := 1 << r.IntN(4)
			at := r.IntN(len(b)/size) * size
			if r.IntN(2) == 0 { // where most numbers stand that are looked at
				at = []int{16, 24, 32, 40, 48, 54, 56, 58, 60, 64, 68, 72, 88, 96, 104, 120, 124, 128, 144, 152, 160}[r.IntN(21)]
			}
			if r.IntN(4) == 0 { // the section headers stand at the end
				at = len(b) - 256 + r.IntN(32)*8
			}
			v := values[r.IntN(len(values))]
			if r.IntN(3) == 0 {
				v = uint64(len(b) - r.IntN(200))
			}
			if at >= 0 && at+size <= len(b) {
				put(b, at, size, v)
			}
		}
		if r.IntN(20) == 0 {
			b = b[:r.IntN(len(b)+1)]
		}
		want := ask(b)
		found[want.why]++
		if want.why != api.OK {
			wantFault(t, "P2.2: a changed file", b, want.why, want.at)
		} else {
			wantImage(t, "P2.2: a changed file", b, want.im)
		}
		if t.Failed() {
			t.Fatalf("the file: % x", b)
		}
	}
	for _, why := range []api.Errno{api.OK, api.ErrMany, api.ErrEnd, api.ErrMagic, api.ErrHeader, api.ErrSegment, api.ErrOverlap, api.ErrSymbol} {
		if found[why] < 50 {
			t.Errorf("error %d was met only %d times", why, found[why])
		}
	}
}

// Any bytes at all have an answer.
func TestP2_2AnyBytes(t *testing.T) {
	r := dice(3)
	head := written(t, api.Image{})
	for range 20000 {
		b := make([]byte, r.IntN(400))
		for i := range b {
			b[i] = byte(r.Uint32()) & byte(r.Uint32())
		}
		copy(b, head[:r.IntN(65)])
		want := ask(b)
		im, err := image.Read(b)
		if want.why != api.OK {
			wantFault(t, "P2.2: any bytes", b, want.why, want.at)
		} else if err != nil || !same(im, want.im) {
			t.Fatalf("P2.2: % x: %v", b, err)
		}
	}
}
