package asm_test

import (
	"testing"

	"anvil/api"
)

func TestExample1(t *testing.T) {
	im := made(t, "addi a0, zero, 1")
	if want := (api.Image{Entry: 0x80000000, Segs: []api.Seg{{Addr: 0x80000000, Size: 4, Flags: api.R + api.X, Data: []byte{0x13, 5, 0x10, 0}}}}); !same(im, want) {
		t.Errorf("%+v", im)
	}
	if im := made(t, ""); !same(im, api.Image{Entry: 0x80000000}) {
		t.Errorf("%+v", im)
	}
	im = made(t, "_start: j _start")
	if want := (api.Image{Entry: 0x80000000, Segs: []api.Seg{{Addr: 0x80000000, Size: 4, Flags: api.R + api.X, Data: []byte{0x6f, 0, 0, 0}}}, Syms: []api.Sym{{Name: "_start", Value: 0x80000000}}}); !same(im, want) {
		t.Errorf("%+v", im)
	}
}

func TestExample2(t *testing.T) {
	gives(t, ".option rvc\nli a0, 1\nret", 0x05, 0x45, 0x82, 0x80)
	gives(t, "li a0, 1\nret", 0x13, 0x05, 0x10, 0, 0x67, 0x80, 0, 0)
}

func TestExample3(t *testing.T) {
	says(t, "li a0, 0x12345678", "lui a0, 0x12345", "addiw a0, a0, 1656")
	says(t, "li a0, 0x80000000", "addi a0, zero, 1", "slli a0, a0, 31")
	says(t, "li a0, -1", "addi a0, zero, -1")
	says(t, "li a0, 0x7fffffffffffffff", "addi a0, zero, -1", "slli a0, a0, 63", "addi a0, a0, -1")
}

func TestExample4(t *testing.T) {
	im := made(t, "x: .word 1, x, -1\n.equ N, 2 * 3 + 1 << 1\n.byte N, 'A', '\\n'")
	data := []byte{1, 0, 0, 0, 0, 0, 0, 0x80, 0xff, 0xff, 0xff, 0xff, 14, 0x41, 0x0a}
	want := api.Image{Entry: 0x80000000, Segs: []api.Seg{{Addr: 0x80000000, Size: 15, Flags: api.R + api.X, Data: data}}, Syms: []api.Sym{{Name: "N", Value: 14}, {Name: "x", Value: 0x80000000}}}
	if !same(im, want) {
		t.Errorf("%+v", im)
	}
}

func TestExample5(t *testing.T) {
	says(t, "1: beqz a0, 1f\nj 1b\n1: nop", "beq a0, zero, 0x80000008", "jal zero, 0x80000000", "addi zero, zero, 0")
}

func TestExample6(t *testing.T) {
	src := ".data\ny: .dword z\n.bss\nz: .zero 3\n.text\nla a0, y"
	want := api.Image{Entry: 0x80000000, Segs: []api.Seg{
		{Addr: 0x80000000, Size: 8, Flags: api.R + api.X, Data: spoken(t, "auipc a0, 0x0", "addi a0, a0, 16")},
		{Addr: 0x80000010, Size: 8, Flags: api.R + api.W, Data: []byte{0x20, 0, 0, 0x80, 0, 0, 0, 0}},
		{Addr: 0x80000020, Size: 3, Flags: api.R + api.W},
	}, Syms: []api.Sym{{Name: "y", Value: 0x80000010}, {Name: "z", Value: 0x80000020}}}
	if im := made(t, src); !same(im, want) {
		t.Errorf("%+v", im)
	}
}

func TestExample7(t *testing.T) {
	says(t, "lui a0, %hi(0x12345fff)\naddi a0, a0, %lo(0x12345fff)", "lui a0, 0x12346", "addi a0, a0, -1")
	says(t, "lw a0, %lo(0x801)(a1)", "lw a0, -2047(a1)")
	says(t, "lw a0, (a1)", "lw a0, 0(a1)")
}

func TestExample8(t *testing.T) {
	refused(t, "nop\n foo a0", 2, 1, api.ErrWord)
	refused(t, "x: x: nop", 1, 3, api.ErrTwice)
	refused(t, ".byte 256", 1, 6, api.ErrRange)
	refused(t, ".byte 1 +", 1, 9, api.ErrExpr)
	refused(t, ".byte 1 / 0", 1, 8, api.ErrZero)
	refused(t, "j there", 1, 2, api.ErrNoName)
	refused(t, "addi a0, a0, 2048", 1, 0, api.ErrReach)
	refused(t, "addi a0, a0", 1, 0, api.ErrOperand)
	refused(t, ".data\nnop", 2, 0, api.ErrPlace)
	refused(t, ".byte 1\nnop", 2, 0, api.ErrPlace)
	refused(t, ".zero y\ny:", 1, 6, api.ErrNoName)
	refused(t, "\"abc", 1, 0, api.ErrLine)
	refused(t, ".ascii \"abc", 1, 7, api.ErrLine)
	refused(t, "a ? b", 1, 2, api.ErrLine)
	refused(t, "1x: nop", 1, 0, api.ErrExpr)
	refused(t, "0x1: nop", 1, 0, api.ErrLine)
}

func TestExample9(t *testing.T) {
	worth(t, "2 + 3 * 4", 14)
	worth(t, "(1 << 63) / -1 | a & 6", 2, api.Sym{Name: "a", Value: 3})
	worth(t, "7 >> 64", 0)
	worthless(t, "", 0, api.ErrExpr)
	worthless(t, "1 +", 3, api.ErrExpr)
	worthless(t, "b", 0, api.ErrNoName)
	worthless(t, ".", 0, api.ErrNoName)
	worthless(t, "1b", 0, api.ErrNoName)
	worth(t, "~0 % 10", 5)
}

func TestExample10(t *testing.T) {
	gives(t, ".asciz \"größe\\x41\\0\"", 0x67, 0x72, 0xc3, 0xb6, 0xc3, 0x9f, 0x65, 0x41, 0, 0)
}
