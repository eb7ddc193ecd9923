package image_test

import (
	"bytes"
	"debug/elf"
	"encoding/binary"
	"io"
	"testing"

	"anvil/api"
	"anvil/image"
)

// expected makes the file of an image by section 2.3 in the order of its points, out of the library's own structs of ELF files.
func expected(im api.Image) []byte {
	var b bytes.Buffer
	lay := func(v any) { binary.Write(&b, binary.LittleEndian, v) }
	align := func() {
		for b.Len()%8 != 0 {
			b.WriteByte(0)
		}
	}
	head := elf.Header64{Type: 2, Machine: 243, Version: 1, Entry: im.Entry, Phoff: 64, Flags: 1, Ehsize: 64, Phentsize: 56, Phnum: uint16(len(im.Segs)), Shentsize: 64}
	copy(head.Ident[:], "\x7fELF\x02\x01\x01")
	lay(head)
	programs := make([]elf.Prog64, len(im.Segs))
	lay(programs)
	for i, s := range im.Segs {
		rights := []uint32{0, 4, 2, 6, 1, 5, 3, 7}[s.Flags]
		programs[i] = elf.Prog64{Type: 1, Flags: rights, Vaddr: s.Addr, Paddr: s.Addr, Filesz: uint64(len(s.Data)), Memsz: s.Size, Align: 1}
		if len(s.Data) > 0 {
			align()
			programs[i].Off = uint64(b.Len())
			b.Write(s.Data)
		}
	}
	if len(im.Syms) > 0 {
		align()
		table := uint64(b.Len())
		lay(elf.Sym64{})
		texts := []byte{0}
		for _, s := range im.Syms {
			lay(elf.Sym64{Name: uint32(len(texts)), Info: 16, Shndx: 0xfff1, Value: s.Value})
			texts = append(append(texts, s.Name...), 0)
		}
		place := uint64(b.Len())
		b.Write(texts)
		own := uint64(b.Len())
		b.WriteString("\x00.symtab\x00.strtab\x00.shstrtab\x00")
		align()
		head.Shoff, head.Shnum, head.Shstrndx = uint64(b.Len()), 4, 3
		lay(elf.Section64{})
		lay(elf.Section64{Name: 1, Type: 2, Off: table, Size: place - table, Link: 2, Info: 1, Addralign: 8, Entsize: 24})
		lay(elf.Section64{Name: 9, Type: 3, Off: place, Size: own - place, Addralign: 1})
		lay(elf.Section64{Name: 17, Type: 3, Off: own, Size: 27, Addralign: 1})
	}
	var top bytes.Buffer
	binary.Write(&top, binary.LittleEndian, head)
	binary.Write(&top, binary.LittleEndian, programs)
	file := b.Bytes()
	copy(file, top.Bytes())
	return file
}

func TestP2_4Bytes(t *testing.T) {
	r := dice(4)
	images := []api.Image{{}, {Entry: last - 1}, rich(), parts(manyParts(16)...), names(manyNames(400)...), {Segs: manyParts(16), Syms: manyNames(400)}}
	for range 3000 {
		images = append(images, randomImage(r))
	}
	for _, im := range images {
		if b := written(t, im); !bytes.Equal(b, expected(im)) {
			t.Fatalf("P2.4: %s:\n% x, want\n% x", brief(im), b, expected(im))
		}
	}
}

// A reader that knows nothing of this program finds in the files what is in the images.
func TestP2_4Library(t *testing.T) {
	r := dice(5)
	for range 300 {
		im := randomImage(r)
		f, err := elf.NewFile(bytes.NewReader(written(t, im)))
		if err != nil {
			t.Fatalf("P2.4: %s: %v", brief(im), err)
		}
		if f.Entry != im.Entry || len(f.Progs) != len(im.Segs) || f.Machine != elf.EM_RISCV || f.Type != elf.ET_EXEC {
			t.Fatalf("P2.4: %s: %+v", brief(im), f.FileHeader)
		}
		for i, p := range f.Progs {
			s := im.Segs[i]
			data, err := io.ReadAll(p.Open())
			if err != nil || !bytes.Equal(data, s.Data) || p.Vaddr != s.Addr || p.Memsz != s.Size || (p.Flags&elf.PF_X != 0) != (s.Flags&api.X != 0) {
				t.Fatalf("P2.4: %s: part %d: %+v, %v", brief(im), i, p.ProgHeader, err)
			}
		}
		found, err := f.Symbols()
		if len(im.Syms) > 0 && err != nil || len(found) != len(im.Syms) {
			t.Fatalf("P2.4: %s: %d names, %v", brief(im), len(found), err)
		}
		for i, s := range found {
			if s.Name != im.Syms[i].Name || s.Value != im.Syms[i].Value || s.Section != elf.SHN_ABS {
				t.Fatalf("P2.4: %s: name %d: %+v", brief(im), i, s)
			}
		}
	}
}

// A file is refused with the error of Check, and without a byte; check_test.go asks for that at every case of P2.1.
func TestP2_4Refused(t *testing.T) {
	for _, im := range []api.Image{{Entry: 1}, parts(api.Seg{}), names(api.Sym{}), parts(manyParts(17)...)} {
		if b, e := image.Write(im); b != nil || e != image.Check(im) || e == api.OK {
			t.Errorf("P2.4: %s: %d bytes, error %d", brief(im), len(b), e)
		}
	}
}

func TestExamplesOfImages(t *testing.T) {
	zero := written(t, api.Image{}) // 1
	if len(zero) != 64 || image.Check(api.Image{}) != api.OK {
		t.Errorf("example 1: %d bytes", len(zero))
	}
	wantImage(t, "example 1", zero, api.Image{})

	nop := api.Image{Entry: 0x80000000, Segs: []api.Seg{{Addr: 0x80000000, Size: 4, Flags: 5, Data: []byte{0x13, 0, 0, 0}}}} // 2
	small := written(t, nop)
	if len(small) != 124 || !bytes.Equal(small[120:], []byte{0x13, 0, 0, 0}) || !bytes.Equal(small[68:72], []byte{5, 0, 0, 0}) {
		t.Errorf("example 2: % x", small)
	}

	nop.Syms = []api.Sym{{Name: "_start", Value: 0x80000000}} // 3
	full := written(t, nop)
	if len(full) != 472 || !bytes.Equal(full[124:128], make([]byte, 4)) || string(full[176:184]) != "\x00_start\x00" || string(full[184:211]) != "\x00.symtab\x00.strtab\x00.shstrtab\x00" || !bytes.Equal(full[211:216], make([]byte, 5)) {
		t.Errorf("example 3: % x", full)
	}

	wantFault(t, "example 4", nil, api.ErrEnd, 0)
	wantFault(t, "example 4", []byte{0x7f, 0x45}, api.ErrEnd, 2)
	wantFault(t, "example 4", []byte{0x7f, 0x46}, api.ErrMagic, 1)
	wantFault(t, "example 4", small[:123], api.ErrEnd, 72)
	wantFault(t, "example 4", patched(small, patch{4, 1, 1}), api.ErrMagic, 4)
}
