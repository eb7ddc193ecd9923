package asm_test

import (
	"bytes"
	"math/rand/v2"
	"strings"
	"testing"

	"anvil/api"
	"anvil/encode"
	"anvil/speak"
)

// shortened: under .option rvc the source must be of these instructions.
func shortened(t *testing.T, src string, texts ...string) {
	t.Helper()
	says(t, ".option rvc\n"+src, texts...)
}

func TestSection8_6Short(t *testing.T) {
	shortened(t, "nop\nmv a0, a1\nmv a0, a0\nmv a0, zero\nnot a0, a0\nneg a0, a1\nsext.w a0, a0\njr a0\njalr a0\nret\nfence\ncsrr a0, mepc\nrdtime a0\nebreak\necall",
		"c.nop", "addi a0, a1, 0", "c.addi a0, 0", "c.li a0, 0", "xori a0, a0, -1", "sub a0, zero, a1", "c.addiw a0, 0", "c.jr a0", "c.jalr a0", "c.jr ra", "fence iorw, iorw", "csrrs a0, mepc, zero", "csrrs a0, time, zero", "c.ebreak", "ecall")
	shortened(t, "add a0, a0, a1\nadd a0, a1, a0\nadd a0, zero, a1\nsub a0, a0, a1\nsub a0, a1, a2\nand s0, s0, s1\nmul a0, a0, a1",
		"c.add a0, a1", "add a0, a1, a0", "c.mv a0, a1", "c.sub a0, a1", "sub a0, a1, a2", "c.and s0, s1", "mul a0, a0, a1")
	shortened(t, "addi a0, a0, 31\naddi a0, a0, 32\naddi a0, zero, 5\naddi sp, sp, 32\naddi a0, sp, 8\nlui a0, 1\nlui a0, 32\nslli a0, a0, 3\nsrai a0, a0, 63\nandi a0, a0, -32",
		"c.addi a0, 31", "addi a0, a0, 32", "c.li a0, 5", "c.addi16sp sp, 32", "c.addi4spn a0, sp, 8", "c.lui a0, 1", "lui a0, 32", "c.slli a0, 3", "c.srai a0, 63", "c.andi a0, -32")
	shortened(t, "lw a0, (a1)\nlw a0, 4(a1)\nlw a0, 5(a1)\nld a0, 8(sp)\nsd ra, 8(sp)\nsw a0, 124(s0)\nsw a0, 128(s0)\nlb a0, (a1)\njalr zero, (a0)\njalr ra, 0(a0)\njalr zero, 4(a0)",
		"c.lw a0, 0(a1)", "c.lw a0, 4(a1)", "lw a0, 5(a1)", "c.ldsp a0, 8(sp)", "c.sdsp ra, 8(sp)", "c.sw a0, 124(s0)", "sw a0, 128(s0)", "lb a0, 0(a1)", "c.jr a0", "c.jalr a0", "jalr zero, 4(a0)")
}

// TestSection8_6Targets: what has a target is long, though it would have a short form.
func TestSection8_6Targets(t *testing.T) {
	shortened(t, "x: j x\njal zero, x\nbeqz s0, x\nbnez s0, .\nbeq s0, zero, x\nj 0x80000000\nbne a0, zero, 0x80000000",
		"jal zero, 0x80000000", "jal zero, 0x80000000", "beq s0, zero, 0x80000000", "bne s0, zero, 0x8000000c", "beq s0, zero, 0x80000000", "jal zero, 0x80000000", "bne a0, zero, 0x80000000")
	shortened(t, "c.j .\nc.beqz a0, .\nc.bnez a0, . - 2", "c.j 0x80000000", "c.beqz a0, 0x80000002", "c.bnez a0, 0x80000002")
	shortened(t, "la a0, .\ncall .\ntail .", "auipc a0, 0x0", "addi a0, a0, 0", "auipc ra, 0x0", "jalr ra, 0(ra)", "auipc t1, 0x0", "jalr zero, 0(t1)")
	says(t, "c.addi a0, 1\nc.nop\nc.addi16sp sp, 16\nc.li a0, %lo(5)", "c.addi a0, 1", "c.nop", "c.addi16sp sp, 16", "c.li a0, 5")
	shortened(t, "c.addi16sp sp, 16\nc.mv a0, a1\nc.addi sp, 16\naddi sp, sp, 16\nc.li zero, 0", "c.addi16sp sp, 16", "c.mv a0, a1", "c.addi sp, 16", "c.addi sp, 16", "c.li zero, 0")
	// a name with c. is two bytes long even where it hangs on a label
	gives(t, "x: c.addi a0, x - x + 1\nc.nop y - y\ny:", 0x05, 0x05, 0x01, 0)
}

// TestSection8_6Names: which names keep an instruction long.
func TestSection8_6Names(t *testing.T) {
	shortened(t, ".equ n, 4\naddi a0, a0, n\nlw a0, n(a1)\nlw a0, n * 2 + 'a' - 97(a1)\naddi a0, a0, %lo(n)\nlui a0, %hi(n << 12)", "c.addi a0, 4", "c.lw a0, 4(a1)", "c.lw a0, 8(a1)", "c.addi a0, 4", "c.lui a0, 4")
	shortened(t, "addi a0, a0, n\n.equ n, 4\naddi a0, a0, n", "addi a0, a0, 4", "c.addi a0, 4")
	shortened(t, "x: addi a0, a0, x - x\naddi a0, a0, . - .\n1: addi a0, a0, 1b - 1b + 4\naddi a0, a0, y - y\ny:", "addi a0, a0, 0", "addi a0, a0, 0", "addi a0, a0, 4", "addi a0, a0, 0")
	shortened(t, "x: addi a0, a0, 0 * x + 1\naddi a0, a0, %lo(x)\nlw a0, x - x(a1)\nlui a0, x >> 31", "addi a0, a0, 1", "addi a0, a0, 0", "lw a0, 0(a1)", "lui a0, 1")
	shortened(t, "x: .equ n, x - x + 4\naddi a0, a0, n\n.equ m, . - x\naddi a0, a0, m", "c.addi a0, 4", "c.addi a0, 2") // a constant made of labels is one too
	shortened(t, ".option norvc\naddi a0, a0, 1\n.option rvc\naddi a0, a0, 1", "addi a0, a0, 1", "c.addi a0, 1")
	shortened(t, "addi a0, a0, 1\nx: addi a0, a0, 1\nj x\n.half x - 0x80000000", "c.addi a0, 1", "c.addi a0, 1", "jal zero, 0x80000002", ".half 0x0002")
}

// TestSection8_6Faults: what has a fault is long in the first walk, and the fault is told by the second.
func TestSection8_6Faults(t *testing.T) {
	refused(t, ".option rvc\naddi a0, a0, 1 / 0", 2, 15, api.ErrZero)
	refused(t, ".option rvc\n addi a0, a0, 2048", 2, 1, api.ErrReach)
	refused(t, ".option rvc\naddi a0, a0, 1 / 0\nx: .byte 1 +", 3, 12, api.ErrExpr)
	refused(t, ".option rvc\naddi a0, a0, 1 / 0\n.org 0x80000004\n.org 0x80000003", 4, 0, api.ErrPlace)
	refused(t, ".option rvc\naddi a0, a0, 1 / 0\n.org 0x80000003", 3, 0, api.ErrPlace)
	refused(t, ".option rvc\naddi a0, a0, 1 / 0\n.org 0x80000004", 2, 15, api.ErrZero)
	refused(t, ".option rvc\naddi a0, a0, q\n.org 0x80000003", 3, 0, api.ErrPlace)
	refused(t, ".option rvc\naddi a0, a0, 4096\n.org 0x80000003", 3, 0, api.ErrPlace)
	refused(t, ".option rvc\nc.addi a0, 4096\n.org 0x80000001", 3, 0, api.ErrPlace)
	refused(t, ".option rvc\nc.addi a0, 4096\n.org 0x80000002", 2, 0, api.ErrReach)
	refused(t, "csrrwi a0, q, 1 / 0", 1, 11, api.ErrNoName)
	refused(t, "addi a0, a0, 1 / 0 + q\nq:", 1, 15, api.ErrZero)
	refused(t, "addi a0, a0, q + 1 / 0\nq:", 1, 19, api.ErrZero)
}

// TestSection8_6Row: the rows of li are short wherever they can be, whatever their values are made of.
func TestSection8_6Row(t *testing.T) {
	shortened(t, "x: li a0, x\nli a0, . - x\nli a0, 2047\nli a0, 0x1001\nli zero, 0", "c.li a0, 1", "c.slli a0, 31", "c.li a0, 4", "addi a0, zero, 2047", "c.lui a0, 0x1", "c.addiw a0, 1", "c.nop")
	r := rand.New(rand.NewPCG(86, 8))
	for range 2000 {
		src := "li " + speak.Reg(r.IntN(32)) + ", " + hexText(r.Uint64()>>r.IntN(64))
		var want []byte
		for _, line := range speak.List(textOf(t, src), api.RamBase) {
			in, _ := speak.Parse(line, api.RamBase)
			b, why := encode.Bytes(in, true)
			if why != api.OK {
				t.Fatal(why)
			}
			want = append(want, b...)
		}
		if got := textOf(t, ".option rvc\n"+src); !bytes.Equal(got, want) {
			t.Fatalf("%q: % x, want % x", src, got, want)
		}
	}
}

// TestSection8_6Same: with .option rvc an instruction is the one that it is without, and as short as encode can make it.
func TestSection8_6Same(t *testing.T) {
	short := 0
	for seed := range uint64(6000) {
		w := newWriter(seed, 0)
		head := modelOrder[w.IntN(len(modelOrder))]
		shape := modelHeads[head][0]
		if head[0] == '.' || head == "li" || strings.HasPrefix(head, "c.") || strings.Contains(shape.stands, ";") {
			continue
		}
		var words []string
		for _, word := range shape.words {
			switch modelLetter(word) {
			case "m":
				words = append(words, w.small(9)+" * 4("+w.register()+")")
			case "e":
				words = append(words, w.pick("", "-")+w.small(33))
			default:
				words = append(words, w.operand(modelLetter(word)))
			}
		}
		src := ".equ N0, 2\n" + head + " " + strings.Join(words, ", ")
		if held(t, src) != api.OK {
			continue
		}
		long := textOf(t, src)
		in, why := speak.Parse(speak.List(long, api.RamBase)[0], api.RamBase)
		if why != api.OK {
			t.Fatal(why)
		}
		want, why := encode.Bytes(in, !strings.Contains(strings.Join(shape.words, ""), "t"))
		if got := textOf(t, ".option rvc\n"+src); why != api.OK || !bytes.Equal(got, want) {
			t.Fatalf("%q: % x, want % x", src, got, want)
		}
		if len(want) == 2 {
			short++
		}
	}
	if short < 100 {
		t.Errorf("only %d short forms", short)
	}
}
