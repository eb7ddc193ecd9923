package image_test

import (
	"bytes"
	"slices"
	"strings"
	"testing"

	"anvil/api"
	"anvil/image"
)

// someImages are valid ones: the edges, and random ones.
func someImages(count int) []api.Image {
	all := []api.Image{
		{}, {Entry: last - 1}, rich(), parts(manyParts(16)...), names(manyNames(400)...),
		{Segs: manyParts(16), Syms: manyNames(400)},
		parts(api.Seg{Addr: last, Size: 1, Flags: 7, Data: []byte{255}}),
		parts(api.Seg{Size: last}, api.Seg{Addr: last, Size: 1, Data: []byte{0}}),
		parts(api.Seg{Size: 1, Data: []byte{}}, api.Seg{Addr: 1, Size: 9, Data: []byte{1}}, api.Seg{Addr: 10, Size: 1}),
		names(api.Sym{Name: strings.Repeat("𝒳", 40), Value: last}),
	}
	r := dice(6)
	for range count {
		all = append(all, randomImage(r))
	}
	return all
}

func TestP2_5(t *testing.T) {
	for _, im := range someImages(3000) {
		wantImage(t, "P2.5", written(t, im), im)
	}
	longest := api.Image{Segs: []api.Seg{{Addr: 1 << 30, Size: 1 << 30, Data: bytes.Repeat([]byte{0xa5}, 200000-120-344)}}, Syms: []api.Sym{{Name: "_start"}}}
	wantImage(t, "P2.5: the longest file", written(t, longest), longest)
}

func TestP2_6(t *testing.T) {
	for _, im := range someImages(100) {
		b := written(t, im)
		if len(im.Segs)+len(im.Syms) == 0 {
			continue
		}
		for n := range len(b) {
			if got, err := image.Read(b[:n]); err == nil || !same(got, api.Image{}) {
				t.Fatalf("P2.6: %s: the first %d of %d bytes are read", brief(im), n, len(b))
			}
		}
	}
}

func TestP2_7(t *testing.T) {
	r := dice(7)
	taken := 0
	for _, im := range someImages(400) {
		b := written(t, im)
		for range 20 {
			x := bytes.Clone(b)
			for range 1 + r.IntN(4) {
				x[r.IntN(len(x))] ^= 1 << r.IntN(8)
			}
			got, err := image.Read(x)
			if err != nil {
				continue
			}
			taken++
			again, e := image.Write(got)
			if e != api.OK {
				t.Fatalf("P2.7: Write refuses %s with error %d", brief(got), e)
			}
			wantImage(t, "P2.7", again, got)
		}
	}
	if taken < 1000 {
		t.Errorf("only %d changed files were read", taken)
	}
}

// Two parts may have the same bytes of a file as their Data; Write lays them twice.
func TestP2_7TooLong(t *testing.T) {
	data := bytes.Repeat([]byte{7}, 150000)
	b := written(t, parts(api.Seg{Size: 1 << 20, Data: data}, api.Seg{Addr: 1 << 30, Size: 1 << 20}))
	b = patched(b, patch{64 + 56 + 8, 8, 64 + 112}, patch{64 + 56 + 32, 8, 150000})
	want := parts(api.Seg{Size: 1 << 20, Data: data}, api.Seg{Addr: 1 << 30, Size: 1 << 20, Data: data})
	wantImage(t, "P2.7: the same bytes twice", b, want)
	if file, e := image.Write(want); e != api.ErrLong || file != nil {
		t.Errorf("P2.7: %d bytes, error %d", len(file), e)
	}
}

// What is handed in stays as it is, its spare room too, and is not kept.
func TestRule3Read(t *testing.T) {
	room := append(richFile(t), bytes.Repeat([]byte{0xee}, 100)...)
	b := room[:richSize]
	ahead := bytes.Clone(room)
	im, err := image.Read(b)
	if err != nil || !bytes.Equal(room, ahead) {
		t.Fatalf("rule 3: Read changes its argument (%v)", err)
	}
	for i := range room {
		room[i] = 0x55
	}
	if !same(im, rich()) {
		t.Errorf("rule 3: the image shares memory with the file: %s", brief(im))
	}
}

func TestRule3Answers(t *testing.T) {
	data := []byte("abcdefgh")
	b := written(t, parts(api.Seg{Size: 8, Data: data}, api.Seg{Addr: 8, Size: 8}))
	b = patched(b, patch{64 + 56 + 8, 8, 64 + 112}, patch{64 + 56 + 32, 8, 8}) // the same bytes as the first
	one, _ := image.Read(b)
	two, _ := image.Read(b)
	for _, part := range []int{0, 1} {
		room := one.Segs[part].Data
		room = room[:cap(room)]
		for i := range room {
			room[i] = byte('0' + part)
		}
	}
	if string(one.Segs[0].Data) != "00000000" || string(one.Segs[1].Data) != "11111111" {
		t.Errorf("rule 3: two parts share memory: %q, %q", one.Segs[0].Data, one.Segs[1].Data)
	}
	if !bytes.Equal(two.Segs[0].Data, data) || !bytes.Equal(two.Segs[1].Data, data) || string(b[64+112:]) != "abcdefgh" {
		t.Errorf("rule 3: two answers share memory, or an answer and the file")
	}
}

func TestRule3Write(t *testing.T) {
	im := rich()
	room := append(bytes.Clone(im.Segs[0].Data), bytes.Repeat([]byte{0xee}, 50)...)
	im.Segs[0].Data = room[:5]
	aheadRoom, aheadParts, aheadNames := bytes.Clone(room), slices.Clone(im.Segs), slices.Clone(im.Syms)
	file := written(t, im)
	other := written(t, im)
	again := bytes.Clone(file)
	for i := range file[:cap(file)] {
		file[:cap(file)][i] = 0x55
	}
	if !bytes.Equal(room, aheadRoom) || !same(api.Image{Segs: im.Segs, Syms: im.Syms}, api.Image{Segs: aheadParts, Syms: aheadNames}) {
		t.Errorf("rule 3: Write changes its argument, or shares memory with it")
	}
	if !bytes.Equal(other, again) {
		t.Errorf("rule 3: two answers share memory")
	}
}
