package asm_test

import (
	"strings"
	"testing"

	"anvil/api"
)

// TestP8_1Source: the faults of the source as a whole.
func TestP8_1Source(t *testing.T) {
	line := strings.Repeat(" ", 999) + "\n"
	full := strings.Repeat(line, 400)
	if len(full) != api.MaxText {
		t.Fatal(len(full))
	}
	made(t, full)
	refused(t, full+"\n", 0, 0, api.ErrText)
	refused(t, strings.Repeat("\n", api.MaxText+1), 0, 0, api.ErrText)
	refused(t, strings.Repeat("\n", api.MaxText), 0, 0, api.ErrMany)
	made(t, strings.Repeat("\n", api.MaxLines))
	made(t, strings.Repeat("\n", api.MaxLines-1)+" ")
	refused(t, strings.Repeat("\n", api.MaxLines)+" ", 0, 0, api.ErrMany)
	refused(t, strings.Repeat("\n", api.MaxLines+1), 0, 0, api.ErrMany)
	refused(t, "?"+strings.Repeat("\n", api.MaxLines+1), 0, 0, api.ErrMany)
	refused(t, strings.Repeat("\n", api.MaxLines-1)+"?", api.MaxLines, 0, api.ErrLine)
}

// TestP8_1Line: the bound of a line.
func TestP8_1Line(t *testing.T) {
	gives(t, ".byte 1"+strings.Repeat(" ", api.MaxLine-7)+"\n.byte 2", 1, 2)
	refused(t, ".byte 1"+strings.Repeat(" ", api.MaxLine-6), 1, api.MaxLine, api.ErrLine)
	refused(t, "nop\n?"+strings.Repeat(" ", api.MaxLine)+"\n", 2, api.MaxLine, api.ErrLine)
	refused(t, "#"+strings.Repeat("é", api.MaxLine/2), 1, api.MaxLine, api.ErrLine)
	made(t, "#"+strings.Repeat("é", api.MaxLine/2-1)+"\r\n")
	refused(t, strings.Repeat(" ", api.MaxLine)+"\r\n", 1, api.MaxLine, api.ErrLine)
	refused(t, "foo\n"+strings.Repeat(" ", api.MaxLine+1), 1, 0, api.ErrWord) // line by line
}

// TestP8_1Order: each fault of the first walk is told ahead of those that the document names behind it, on one line.
func TestP8_1Order(t *testing.T) {
	ahead := "x:\n.data\n"
	for _, c := range []struct {
		line string
		at   int
		why  api.Errno
	}{
		{"x: 5 foo ?", 9, api.ErrLine},                                  // tokens
		{"x: 5 foo 1x", 9, api.ErrExpr},                                 // tokens
		{"x: 5 foo " + over, 9, api.ErrRange},                           // tokens
		{"x: 5 foo " + strings.Repeat("a", 41), 9, api.ErrName},         // tokens
		{"x: 5 foo", 3, api.ErrLine},                                    // statements
		{".: 5", 0, api.ErrName},                                        // from the left
		{"x: foo", 0, api.ErrTwice},                                     // labels
		{"y: x: foo", 3, api.ErrTwice},                                  // labels
		{"y: foo (", 3, api.ErrWord},                                    // the head
		{"y: nop (", 3, api.ErrPlace},                                   // the place
		{"y: .org", 3, api.ErrPlace},                                    // the place
		{".text 1 +", 0, api.ErrOperand},                                // the number of operands
		{".equ x", 0, api.ErrOperand},                                   // the number of operands
		{".equ 5, 1 +", 0, api.ErrOperand},                              // the first operand's form
		{".equ x, 1 +", 11, api.ErrExpr},                                // the second one's form
		{".equ x, " + strings.Repeat("(", 31), 38, api.ErrDeep},         // the second one's form
		{".equ x, q", 5, api.ErrTwice},                                  // the name
		{".equ y, q", 8, api.ErrNoName},                                 // the value
		{".zero 1 / 0", 8, api.ErrZero},                                 // the value
		{".zero 65537", 0, api.ErrRange},                                // what hangs on the value
		{".balign 3", 0, api.ErrRange},                                  // what hangs on the value
		{".byte 1 +, 2, ?", 14, api.ErrLine},                            // tokens ahead of operands
		{".byte 1 +, (", 9, api.ErrExpr},                                // operands from the left
		{".byte q, 256, 1 +", 17, api.ErrExpr},                          // all forms ahead of values
		{".globl q, 5", 0, api.ErrOperand},                              // all forms ahead of names
		{".ascii \"a\", 1 +", 0, api.ErrOperand},                        // a text's form
		{".byte " + strings.Repeat("(", 31) + ", 1 +", 36, api.ErrDeep}, // from the left
	} {
		refused(t, ahead+c.line, 3, c.at, c.why)
		refused(t, ahead+c.line+"\n?", 3, c.at, c.why)
	}
}

// TestP8_1Operands: operand by operand: each one's form ahead of its expression, ahead of the next one.
func TestP8_1Operands(t *testing.T) {
	refused(t, "beq 5, a0, 1 +", 1, 0, api.ErrOperand)
	refused(t, "beq a0, a0, 1 +", 1, 15, api.ErrExpr)
	refused(t, "csrrwi a0, 1 +, %q", 1, 14, api.ErrExpr)
	refused(t, "csrrwi a0, 1 + 1, %q", 1, 0, api.ErrOperand)
	refused(t, "csrrwi 5, 1 +, 1", 1, 0, api.ErrOperand)
	refused(t, "csrw 1 +, 5", 1, 8, api.ErrExpr)
	refused(t, "csrw 1, 5", 1, 0, api.ErrOperand)
	refused(t, "li 5, (", 1, 0, api.ErrOperand)
	refused(t, "li a0, (", 1, 8, api.ErrExpr)
}

// TestP8_1Walks: the first walk's faults, those of the whole, the second walk's.
func TestP8_1Walks(t *testing.T) {
	second := []struct {
		line string
		at   int
		why  api.Errno
	}{
		{".byte q", 6, api.ErrNoName}, {".byte 1 / 0", 8, api.ErrZero}, {".byte 256", 6, api.ErrRange}, {".globl q", 7, api.ErrNoName}, {"j q", 2, api.ErrNoName}, {"addi a0, a0, 2048", 0, api.ErrReach}, {"addi a0, a0, 1 % 0", 15, api.ErrZero}, {"csrr a0, 4096", 0, api.ErrOperand}, {"call 0", -1, api.OK}, {"call -1 >> 1", 0, api.ErrReach}, {"la a0, q", 7, api.ErrNoName}, {"c.mv a0, zero", 0, api.ErrOperand}, {"fence q, q", 0, api.ErrOperand},
	}
	first := []struct {
		line string
		at   int
		why  api.Errno
	}{
		{"?", 0, api.ErrLine}, {"5", 0, api.ErrLine}, {"foo", 0, api.ErrWord}, {".zero q", 6, api.ErrNoName}, {".zero -1", 0, api.ErrRange}, {"li a0, q", 7, api.ErrNoName}, {".org 0", 0, api.ErrPlace}, {".byte 1 +", 9, api.ErrExpr}, {"mv a0, 5", 0, api.ErrOperand}, {".zero 65536 + 1", 0, api.ErrRange},
	}
	for _, s := range second {
		if s.at < 0 {
			continue
		}
		refused(t, "\n"+s.line, 2, s.at, s.why)
		for _, f := range first {
			refused(t, s.line+"\n.align 3\n"+f.line, 3, f.at, f.why)
		}
		refused(t, s.line+"\n.half 0\n.data\n.zero 65535", 5, 0, api.ErrRange) // the whole ahead of the second walk
		for _, other := range second {
			if other.at >= 0 {
				refused(t, s.line+"\n.align 3\n"+other.line, 1, s.at, s.why) // line by line
			}
		}
	}
	for _, f := range first {
		refused(t, ".align 3\n"+f.line+"\n.data\n.zero 65535\n?", 2+strings.Count(f.line, "\n"), f.at, f.why) // in its order
	}
}

// TestP8_1Room: a section's bound, and all sections'.
func TestP8_1Room(t *testing.T) {
	for _, section := range []string{".text", ".data", ".bss"} {
		im := made(t, section+"\n.zero 65535\n.zero 1\n.zero 0\n.align 12")
		if len(im.Segs) != 1 || im.Segs[0].Size != api.MaxRam || im.Segs[0].Addr != api.RamBase {
			t.Errorf("%s: %+v", section, im.Segs)
		}
		refused(t, section+"\n.zero 65535\n .zero 2", 3, 1, api.ErrRange)
		if section != ".bss" {
			refused(t, section+"\n.zero 65533\n .word 1", 3, 1, api.ErrRange)
			refused(t, section+"\n.zero 65533\n.byte 1\n.half q", 4, 6, api.ErrNoName)
			refused(t, section+"\n.zero 65533\n .half 1, q", 3, 1, api.ErrRange)
			refused(t, section+"\n.zero 65533\n .ascii \"abcd\"", 3, 1, api.ErrRange)
			refused(t, section+"\n.zero 65533\n .asciz \"abc\"", 3, 1, api.ErrRange)
			made(t, section+"\n.zero 65533\n .ascii \"abc\"")
		}
	}
	refused(t, ".zero 65534\nnop", 2, 0, api.ErrRange)
	made(t, ".zero 65534\nc.nop")
	made(t, ".zero 65534\n.option rvc\nnop")
	refused(t, ".zero 65534\n.option rvc\nj .", 3, 0, api.ErrRange)
	made(t, ".zero 65532\nnop")
	refused(t, ".zero 65532\ncall 0", 2, 0, api.ErrRange)
	made(t, ".zero 65528\nla a0, .")
	refused(t, ".zero 65532\nli a0, 0x12345678", 2, 0, api.ErrRange)
	made(t, ".zero 65528\nli a0, 0x12345678")
	// all of them
	made(t, ".zero 65520\n.data\n.zero 16")
	refused(t, ".zero 65520\n.data\n.zero 17", 4, 0, api.ErrRange)
	refused(t, ".zero 65520\n.data\n.zero 17\n", 4, 0, api.ErrRange)
	refused(t, ".zero 65520\n.data\n.zero 17\n\n", 5, 0, api.ErrRange)
	made(t, ".zero 65521\n.data\n.bss")
	refused(t, ".zero 65521\n.bss\n.zero 1", 4, 0, api.ErrRange)
	made(t, ".zero 1\n.data\n.zero 1\n.bss\n.zero 65504")
	refused(t, ".zero 1\n.data\n.zero 1\n.bss\n.zero 65505", 6, 0, api.ErrRange)
	made(t, ".data\n.align 12\n.zero 1\n.bss\n.balign 4096\n.zero 61440")
	refused(t, ".data\n.align 12\n.zero 1\n.bss\n.balign 4096\n.zero 61441", 7, 0, api.ErrRange)
	made(t, ".zero 65535\n.data\n.align 12\n.bss\n.align 12")
}
