package asm_test

import (
	"fmt"
	"strings"
	"testing"

	"anvil/api"
)

func TestSection8_2Labels(t *testing.T) {
	im := made(t, "a: b : 1: c:\nd:\te: .byte 1\nf:\n.equ g, 5\nnop: .byte 2\n .byte: .byte 3\n07: 7:")
	want := []api.Sym{{Name: "g", Value: 5}, {Name: "a", Value: api.RamBase}, {Name: "b", Value: api.RamBase}, {Name: "c", Value: api.RamBase}, {Name: "d", Value: api.RamBase}, {Name: "e", Value: api.RamBase}, {Name: "f", Value: api.RamBase + 1}, {Name: "nop", Value: api.RamBase + 1}, {Name: ".byte", Value: api.RamBase + 2}}
	if len(im.Syms) != len(want) {
		t.Fatalf("%+v", im)
	}
	for i, s := range want {
		if im.Syms[i] != s {
			t.Errorf("%+v, want %+v", im.Syms[i], s)
		}
	}
	refused(t, ". : nop", 1, 0, api.ErrName)
	refused(t, "x: .:", 1, 3, api.ErrName)
	refused(t, "x: .: 5", 1, 3, api.ErrName)
	refused(t, "5: 5 .:", 1, 3, api.ErrLine)
	for _, text := range []string{"0x1:", "1b:", "1f: nop", "0b1:", "0b:", "'a':", "\"a\":", "::", "(:", "5", "5 nop", "1b", "'a'", "\"a\"", "+ 1", ": nop", "(x)", ", nop", "5 5:"} {
		refused(t, text, 1, 0, api.ErrLine)
		refused(t, "x: 1: "+text, 1, 6, api.ErrLine)
		refused(t, "x: x: "+text, 1, 6, api.ErrLine) // ahead of the labels' own faults
	}
	refused(t, "x: : nop", 1, 3, api.ErrLine)
	refused(t, ". nop", 1, 0, api.ErrWord)
	refused(t, ".", 1, 0, api.ErrWord)
	refused(t, "x y: nop", 1, 0, api.ErrWord)
	refused(t, ".byte y: nop", 1, 7, api.ErrExpr)
}

func TestSection8_7Twice(t *testing.T) {
	refused(t, "x: x:", 1, 3, api.ErrTwice)
	refused(t, "x:\n y: x: foo", 2, 4, api.ErrTwice)
	refused(t, ".equ x, 1\nx:", 2, 0, api.ErrTwice)
	refused(t, "x:\n.equ x, 1", 2, 5, api.ErrTwice)
	refused(t, "x: .equ x, 1", 1, 8, api.ErrTwice)
	refused(t, ".equ x, 1\n.set x, 1", 2, 5, api.ErrTwice)
	refused(t, ".set  x, 1\n.set  x, y", 2, 6, api.ErrTwice)   // ahead of the value's fault
	refused(t, ".set  x, 1\n.set  x, 1 +", 2, 12, api.ErrExpr) // behind the form's
	made(t, "1: 1: 1: 01:\n1:")
	made(t, "x: X: x.: x_: .x: xx:")
}

// many writes so many labels and constants, and local labels beside them.
func many(n int) string {
	var b strings.Builder
	for i := range n {
		if i%3 == 0 {
			fmt.Fprintf(&b, ".equ n%d, %d\n", i, i)
		} else {
			fmt.Fprintf(&b, "n%d: 1: 2:\n", i)
		}
	}
	return b.String()
}

func TestSection8_7Many(t *testing.T) {
	if im := made(t, many(api.MaxLabels)); len(im.Syms) != api.MaxLabels {
		t.Errorf("%d names", len(im.Syms))
	}
	made(t, many(api.MaxLabels)+"1: 2: 3:\n.globl n0")
	refused(t, many(api.MaxLabels)+"1: x:", 401, 3, api.ErrMany)
	refused(t, many(api.MaxLabels)+" .equ x, y", 401, 6, api.ErrMany)
	refused(t, many(api.MaxLabels)+" .equ x, (", 401, 10, api.ErrExpr)
	refused(t, many(api.MaxLabels)+"n7: x:", 401, 0, api.ErrTwice)
	refused(t, many(api.MaxLabels)+".equ n7, 1", 401, 5, api.ErrTwice)
	refused(t, many(api.MaxLabels-1)+"x: y: foo", 400, 3, api.ErrMany)
	refused(t, many(api.MaxLabels-1)+"x: .equ y, 1", 400, 8, api.ErrMany)
}

func TestSection8_2Operands(t *testing.T) {
	gives(t, ".byte (1), (2 + (3)), 4", 1, 5, 4)
	refused(t, ".byte (1, 2)", 1, 8, api.ErrExpr) // a comma in brackets cuts nothing
	refused(t, ".byte 1), 2", 1, 7, api.ErrExpr)
	refused(t, "addi a0), a0, 1", 1, 0, api.ErrOperand)
	refused(t, "add )), a0, a1, a2", 1, 0, api.ErrOperand)
	refused(t, ".equ x), 1", 1, 0, api.ErrOperand)
	refused(t, ".equ )x, ?", 1, 9, api.ErrLine)
	refused(t, ".byte )), 1", 1, 6, api.ErrExpr) // brackets are never counted below none: two operands, the first at fault
	refused(t, ".zero ), 1", 1, 0, api.ErrOperand)
	refused(t, ".zero (, 1", 1, 7, api.ErrExpr)
	refused(t, ".byte ,", 1, 6, api.ErrExpr)
	refused(t, ".byte 1,", 1, 8, api.ErrExpr)
	refused(t, ".byte 1, # c", 1, 8, api.ErrExpr)
	refused(t, ".byte 1,,2", 1, 8, api.ErrExpr)
	refused(t, ".text ,", 1, 0, api.ErrOperand)
	refused(t, "nop ,", 1, 0, api.ErrOperand)
	refused(t, "mv a0,", 1, 0, api.ErrOperand)
	refused(t, "mv ,a0", 1, 0, api.ErrOperand)
	refused(t, "mv a0 a1", 1, 0, api.ErrOperand)
	refused(t, "mv a0 a1, a2", 1, 0, api.ErrOperand)
	refused(t, "jal ,", 1, 0, api.ErrOperand)
}

func TestSection8_2Heads(t *testing.T) {
	for _, head := range []string{"foo", "Nop", "NOP", ".Byte", ".words", "lr", "lr.w.", "lr.w.q", "lr.w.aqrl.aq", "lr.w.d", "lr.d.w", "amoadd", "amoadd.b", "amoadd.aq", "amoaddu.w", "add.w", "add.aq", "c", "c.", "c.foo", "c.lwu", "c.jal", "a0", "fence.tso", "sret", "uret", "sfence.vma", "csrrwx", "x", "_", "..", ".lr.w", "jalx", ".option.", ".section", ".file", "subi", "c.nop.aq", "nop.aq", ".w", ".aq", ".equ.", ".asciiz", "fmv", "sgt", "li.w", "ra", ".4byte"} {
		refused(t, "nop\n "+head+" a0, (", 2, 1, api.ErrWord)
		refused(t, ".data\n.byte 1\nx: "+head, 3, 3, api.ErrWord)
	}
}
