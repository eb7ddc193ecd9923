package asm_test

import (
	"bytes"
	"slices"
	"strings"
	"testing"

	"anvil/api"
	"anvil/asm"
	"anvil/image"
)

func TestP8_2Entry(t *testing.T) {
	for src, want := range map[string]uint64{
		"":                                      api.RamBase,
		"nop":                                   api.RamBase,
		"nop\n_start:":                          api.RamBase + 4,
		"nop\n_start: nop":                      api.RamBase + 4,
		".byte 1\n_start:":                      api.RamBase,
		".zero 3\n_start:":                      api.RamBase + 2,
		"nop\n.data\n.byte 1\n_start: .byte 1":  api.RamBase,
		"nop\n.bss\n_start:":                    api.RamBase,
		"nop\n.equ _start, 0x80000004":          api.RamBase,
		"nop\n_Start: _start_: start: __start:": api.RamBase,
		"nop\n.data\n.text\n_start:":            api.RamBase + 4,
		".zero 65536\n_start:":                  api.RamBase + api.MaxRam,
	} {
		if im := made(t, src); im.Entry != want {
			t.Errorf("%q: Entry %#x, want %#x", src, im.Entry, want)
		}
	}
}

func TestP8_2Segs(t *testing.T) {
	for src, want := range map[string][]api.Seg{
		"":                       nil,
		".data\n.bss\nx:":        nil,
		".byte 1":                {{Addr: 0x80000000, Size: 1, Flags: 5, Data: []byte{1}}},
		".data\n.byte 1":         {{Addr: 0x80000000, Size: 1, Flags: 3, Data: []byte{1}}},
		".bss\n.zero 5":          {{Addr: 0x80000000, Size: 5, Flags: 3}},
		".zero 3\n.bss\n.zero 5": {{Addr: 0x80000000, Size: 3, Flags: 5, Data: make([]byte, 3)}, {Addr: 0x80000010, Size: 5, Flags: 3}},
		".bss\n.zero 5\n.data\n.byte 2\n.text\n.byte 1": {{Addr: 0x80000000, Size: 1, Flags: 5, Data: []byte{1}}, {Addr: 0x80000010, Size: 1, Flags: 3, Data: []byte{2}}, {Addr: 0x80000020, Size: 5, Flags: 3}},
	} {
		if im := made(t, src); !same(api.Image{Segs: im.Segs}, api.Image{Segs: want}) {
			t.Errorf("%q: %+v", src, im.Segs)
		}
	}
}

func TestP8_2Syms(t *testing.T) {
	im := made(t, ".equ top, -1\n.equ zero, 0\nb: a: .equ c, 0x80000000\n.byte 0\nB: é: z:\n.equ y, 0x80000001\n1: .data\nd: .byte 0\n.bss\n_start: 2:\n.set Zero, 0")
	want := []api.Sym{{Name: "Zero", Value: 0}, {Name: "zero", Value: 0}, {Name: "a", Value: 0x80000000}, {Name: "b", Value: 0x80000000}, {Name: "c", Value: 0x80000000}, {Name: "B", Value: 0x80000001}, {Name: "y", Value: 0x80000001}, {Name: "z", Value: 0x80000001}, {Name: "é", Value: 0x80000001}, {Name: "d", Value: 0x80000010}, {Name: "_start", Value: 0x80000020}, {Name: "top", Value: 1<<64 - 1}}
	if !slices.Equal(im.Syms, want) {
		t.Errorf("%+v, want %+v", im.Syms, want)
	}
}

// TestP8_3Most: the greatest image is valid, its file can be written and read.
func TestP8_3Most(t *testing.T) {
	var b strings.Builder
	for i := range api.MaxLabels {
		b.WriteString(strings.Repeat("漢", api.MaxName-2) + string(rune('a'+i/20)) + string(rune('a'+i%20)) + ":\n")
	}
	b.WriteString(".zero 21840\n.data\n.zero 21840\n.byte 1\n.bss\n.zero 21840\n")
	im := made(t, b.String())
	file, why := image.Write(im)
	if why != api.OK {
		t.Fatal(why)
	}
	back, err := image.Read(file)
	if err != nil || !same(back, im) {
		t.Errorf("%v", err)
	}
}

// TestRule3New: what is answered is new memory, and no two answers share any.
func TestRule3New(t *testing.T) {
	src := ".ascii \"abc\"\n.data\n.ascii \"def\"\nx: y:"
	one, two := made(t, src), made(t, src)
	keep := made(t, src)
	for _, s := range one.Segs {
		for i := range s.Data[:cap(s.Data)] {
			s.Data[:cap(s.Data)][i] = 0xee
		}
	}
	one.Syms[0], one.Segs[0].Addr = api.Sym{}, 5
	if !same(two, keep) || !bytes.Equal(two.Segs[0].Data, []byte("abc")) || !bytes.Equal(two.Segs[1].Data, []byte("def")) {
		t.Errorf("%+v", two)
	}
}

// TestRule3Names: the names that Value is given stay as they are, and are not kept.
func TestRule3Names(t *testing.T) {
	names := []api.Sym{{Name: "b", Value: 2}, {Name: "a", Value: 1}, {Name: "b", Value: 3}, {Name: "spare", Value: 9}}
	given := names[:3]
	worth(t, "a + b", 3, given...)
	if v, err := asm.Value("a + b", given); v != 3 || err != nil {
		t.Error(v, err)
	}
	if !slices.Equal(names, []api.Sym{{Name: "b", Value: 2}, {Name: "a", Value: 1}, {Name: "b", Value: 3}, {Name: "spare", Value: 9}}) {
		t.Errorf("%+v", names)
	}
	worthless(t, "a", 0, api.ErrNoName)
	worth(t, "a", 5, api.Sym{Name: "a", Value: 5})
}
