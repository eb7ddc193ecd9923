package asm_test

import (
	"strings"
	"testing"

	"anvil/api"
	"anvil/speak"
)

// rightOperands: for each head of 8.5 operands that it takes, where the first that come to mind are not such.
var rightOperands = map[string]string{
	"c.addi4spn": "a0, sp, 8", "c.addi16sp": "sp, 32", "c.lui": "a0, 5", "c.lwsp": "a0, 8(sp)", "c.ldsp": "a0, 8(sp)", "c.swsp": "a0, 8(sp)", "c.sdsp": "a0, 8(sp)", "c.nop": "",
}

// wordOf: an operand of that letter.
func wordOf(letter string) string {
	return map[string]string{"r": "a0", "e": "8", "t": "0x80000010", "c": "mepc", "m": "8(a1)", "a": "(a2)", "f": "rw", "v": "5"}[letter]
}

// rightWords: a head's operands of a shape.
func rightWords(head string, shape modelShape) []string {
	if text, is := rightOperands[head]; is && len(shape.words) == len(strings.Split(text, ",")) {
		return strings.Split(text, ", ")
	}
	var words []string
	for _, word := range shape.words {
		words = append(words, wordOf(modelLetter(word)))
	}
	return words
}

func TestSection8_5Heads(t *testing.T) {
	n := 0
	for _, head := range modelOrder {
		for _, shape := range modelHeads[head] {
			if head[0] == '.' || shape.stands != "" {
				continue
			}
			n++
			text := strings.TrimSpace(head + " " + strings.Join(rightWords(head, shape), ", "))
			says(t, text, text)
			says(t, "x: "+strings.ReplaceAll(text, ",", " ,\t")+" # c", text)
		}
	}
	if n != 196 {
		t.Errorf("%d heads and shapes", n)
	}
}

// TestSection8_5Counts: one operand too few, one too many.
func TestSection8_5Counts(t *testing.T) {
	for _, head := range modelOrder {
		if head[0] == '.' {
			continue
		}
		takes := map[int]bool{}
		for _, shape := range modelHeads[head] {
			takes[len(shape.words)] = true
		}
		for _, shape := range modelHeads[head] {
			words := rightWords(head, shape)
			for n := range 5 {
				if takes[n] {
					continue
				}
				list := append(append([]string(nil), words...), "a0", "a0", "a0", "a0")[:n]
				refused(t, "nop\n x: "+head+" "+strings.Join(list, ", "), 2, 4, api.ErrOperand)
			}
		}
	}
}

// TestSection8_5Forms: each operand of another form.
func TestSection8_5Forms(t *testing.T) {
	wrong := map[string][]string{
		"r": {"5", "x32", "", "a0 a0", "(a0)", "A0", "q", ".", "'a'", `"a0"`, "-a0", "1b", "%lo(1)", "mepc"},
		"a": {"a0", "0(a0)", "5", "", "()", "(5)", "((a0))", "(a0", "(a0) a0", "(a0)(a0)", "(q)", "%lo(1)", `("a0")`},
		"f": {"", "r w", "(r)", "'r'", `"r"`, "-", "-1", "r + w", "%"},
		"m": {"", "5", "a0", "5 a0", "(5)", "5(5)", "(a0", "a0)", "5(a0) 5", "5(a0)+1", "((a0))", "(q)", "5()", "5(A0)", "%lo(a0)", "%up(5)(a0)", "%lo 5(a0)", "%(5)(a0)", "%lo(5)+1(a0)", "%lo(5)(5)(a0)", "%lo((5)(a0)", "%lo(5))(a0)", "%(a0)", "%5(a0)", `%"lo"(5)(a0)`, "%hi%lo(5)(a0)"},
		"e": {"%", "%hi", "%hi(", "%hi(5", "%up(5)", "%Hi(5)", "%hi 5", "%(5)", "%5", "%lo(5) + 1", "%lo(5)(5)", "%lo(5)(a0)", "%lo((5)", "%lo(5))", "%lo(5)-(5)", "%lo)5(", `%"lo"(5)`, "%%lo(5)", "%lo%(5)", "%lo lo(5)"},
	}
	for _, head := range modelOrder {
		if head[0] == '.' {
			continue
		}
		for _, shape := range modelHeads[head] {
			for i, word := range shape.words {
				for _, other := range wrong[modelLetter(word)] {
					words := rightWords(head, shape)
					words[i] = other
					if len(words) == 1 && other == "" {
						continue // that is no operand at all
					}
					refused(t, "nop\n "+head+" "+strings.Join(words, ", "), 2, 1, api.ErrOperand)
				}
			}
		}
	}
}

// TestSection8_5Expressions: t, c, e and m with expressions that are none.
func TestSection8_5Expressions(t *testing.T) {
	for _, head := range modelOrder {
		if head[0] == '.' {
			continue
		}
		for _, shape := range modelHeads[head] {
			for i, word := range shape.words {
				behind := ""
				switch modelLetter(word) {
				case "m":
					behind = "(a1)"
				case "e", "t", "c", "v":
				default:
					continue
				}
				words := rightWords(head, shape)
				ahead := head + " " + strings.Join(append(words[:i:i], ""), ", ")
				rest := behind
				if i+1 < len(words) {
					rest += ", " + strings.Join(words[i+1:], ", ")
				}
				refused(t, ahead+"1 +"+rest, 1, len(ahead)+3, api.ErrExpr)
				refused(t, ahead+"1 2"+rest, 1, len(ahead)+2, api.ErrExpr)
				refused(t, ahead+"1)"+rest, 1, len(ahead)+1, api.ErrExpr)
				refused(t, ahead+"*"+rest, 1, len(ahead), api.ErrExpr)
				if word != "v" {
					refused(t, ahead+"7 / 0"+rest, 1, len(ahead)+2, api.ErrZero)
					refused(t, ahead+"q"+rest, 1, len(ahead), api.ErrNoName)
				}
			}
		}
	}
}

func TestSection8_5Parts(t *testing.T) {
	for _, c := range []struct {
		of, hi, lo string
	}{
		{"0", "0x0", "0"}, {"0x7ff", "0x0", "2047"}, {"0x800", "0x1", "-2048"}, {"0xfff", "0x1", "-1"}, {"0x1000", "0x1", "0"}, {"0x12345fff", "0x12346", "-1"}, {"0x123457ff", "0x12345", "2047"},
		{"-1", "0x0", "-1"}, {"-2048", "0x0", "-2048"}, {"-2049", "0xfffff", "2047"}, {"0xfffff7ff", "0xfffff", "2047"}, {"0xfffff800", "0x0", "-2048"}, {"0x7fffffff", "0x80000", "-1"}, {"0x123456789abcdef0", "0x9abce", "-272"}, {"x", "0x80000", "0"}, {"x + 4 * 7", "0x80000", "28"},
	} {
		ahead := "x: "
		says(t, ahead+"lui a0, %hi("+c.of+")", "lui a0, "+c.hi)
		says(t, ahead+"auipc a0, % hi ( "+c.of+" )", "auipc a0, "+c.hi)
		says(t, ahead+"addi a0, a1, %lo("+c.of+")", "addi a0, a1, "+c.lo)
		says(t, ahead+"lw a0, %lo("+c.of+")(a1)", "lw a0, "+c.lo+"(a1)")
		says(t, ahead+"sd a0, %lo ((("+c.of+"))) ( a1 )", "sd a0, "+c.lo+"(a1)")
		says(t, ahead+"jalr a0, %lo("+c.of+")(a1)", "jalr a0, "+c.lo+"(a1)")
	}
	says(t, ".equ hi, 7\n.equ lo, 9\naddi a0, a0, hi % lo\naddi a0, a0, %lo(hi % lo)\nlw a0, lo % hi(a0)", "addi a0, a0, 7", "addi a0, a0, 7", "lw a0, 2(a0)")
	says(t, "lw a0, %hi(0x12345)(a1)\nc.nop %lo(0x1005)\ncsrrwi a0, mepc, %lo(31)\ncsrwi mepc, %hi(0x1fff)", "lw a0, 18(a1)", "c.nop 5", "csrrwi a0, mepc, 31", "csrrwi zero, mepc, 2")
	refused(t, "addi a0, a0, %hi(0x800000)", 1, 0, api.ErrReach)
	refused(t, "lui a0, %lo(-1)", 1, 0, api.ErrReach)
}

func TestSection8_5Memory(t *testing.T) {
	says(t, "lw a0, (a1)\nlw a0, 4(a1)\nlw a0, -4 ( x11 )\nlw a0, (4)(a1)\nlw a0, (2)*2(a1)\nlw a0, 2 + (2)(fp)\nlw a0, 'A'(sp)", "lw a0, 0(a1)", "lw a0, 4(a1)", "lw a0, -4(a1)", "lw a0, 4(a1)", "lw a0, 4(a1)", "lw a0, 4(s0)", "lw a0, 65(sp)")
	says(t, ".equ a1, 12\nlw a0, a1(a1)\nlw a0, (a1)(a1)\nlw a0, a1 + a1(a0)\naddi a0, a0, a1", "lw a0, 12(a1)", "lw a0, 12(a1)", "lw a0, 24(a0)", "addi a0, a0, 12")
	says(t, "c.lw a0, (s0)\nc.swsp ra, (sp)\njalr zero, (ra)", "c.lw a0, 0(s0)", "c.swsp ra, 0(sp)", "jalr zero, 0(ra)")
	refused(t, "lw a0, 4+(a1)", 1, 9, api.ErrExpr)
	refused(t, "lw a0, 2048(a1)", 1, 0, api.ErrReach)
	refused(t, "lw a0, -2049(a1)", 1, 0, api.ErrReach)
}

func TestSection8_5Csrs(t *testing.T) {
	says(t, ".equ k, 0x300\ncsrrw a0, mstatus, a1\ncsrrw a0, 0x300, a1\ncsrrw a0, 768, a1\ncsrrw a0, k, a1\ncsrrw a0, k + 1, a1\ncsrrsi a0, (k), 3\ncsrrw a0, 4095, a1\ncsrrw a0, 0, a1",
		"csrrw a0, mstatus, a1", "csrrw a0, mstatus, a1", "csrrw a0, mstatus, a1", "csrrw a0, mstatus, a1", "csrrw a0, misa, a1", "csrrsi a0, mstatus, 3", "csrrw a0, 0xfff, a1", "csrrw a0, 0x0, a1")
	says(t, ".equ mstatus, 5\n.equ mcause.x, 6\ncsrr a0, mstatus\ncsrr a0, (mstatus)\ncsrr a0, mcause.x", "csrrs a0, mstatus, zero", "csrrs a0, 0x5, zero", "csrrs a0, 0x6, zero")
	for _, csr := range []string{"4096", "-1", "k", "1 << 63"} {
		refused(t, ".equ k, 4096\ncsrrw a0, "+csr+", a1", 2, 0, api.ErrOperand)
		refused(t, ".equ k, 4096\ncsrwi "+csr+", 32", 2, 0, api.ErrOperand)
	}
	refused(t, "csrrw a0, MSTATUS, a1", 1, 10, api.ErrNoName)
	refused(t, "csrrwi a0, mepc, 32", 1, 0, api.ErrReach)
	refused(t, "csrrwi a0, q, 1 / 0", 1, 11, api.ErrNoName)
	refused(t, "csrrwi a0, 1 / 0, q", 1, 13, api.ErrZero)
	refused(t, "csrrwi a0, 4096, q", 1, 17, api.ErrNoName) // values ahead of what speak refuses
}

func TestSection8_5Fences(t *testing.T) {
	says(t, "fence r, w\nfence wr, 0\nfence iorw, oi\nfence 0, 0\nfence", "fence r, w", "fence rw, 0", "fence iorw, io", "fence 0, 0", "fence iorw, iorw")
	says(t, "r: w:\nfence r, w", "fence r, w")
	for _, f := range []string{"a", "ww", "00", "1", "1b", ".", "0x0", "R", "rwr", "é"} {
		refused(t, " fence r, "+f, 1, 1, api.ErrOperand)
		refused(t, " fence "+f+", r\n.byte 1 /", 2, 9, api.ErrExpr) // it is told by the second walk
	}
	// as chapter 7 writes it there are two bytes between the operands: one more than MaxLine in all
	refused(t, "fence "+strings.Repeat("0", api.MaxLine-8)+",0", 1, 0, api.ErrLong)
	refused(t, "fence "+strings.Repeat("0", api.MaxLine-9)+",0", 1, 0, api.ErrOperand)
}

// TestSection8_5Reach: targets and numbers at their reach and one beyond.
func TestSection8_5Reach(t *testing.T) {
	at := ".zero 0x4000\n"
	for _, c := range []struct {
		text  string
		below int64
		above int64
	}{
		{"jal a0, . + ", -1 << 20, 1<<20 - 2}, {"j . + ", -1 << 20, 1<<20 - 2}, {"jal . + ", -1 << 20, 1<<20 - 2},
		{"beq a0, a1, . + ", -1 << 12, 1<<12 - 2}, {"bgtu a0, a1, . + ", -1 << 12, 1<<12 - 2}, {"beqz a0, . + ", -1 << 12, 1<<12 - 2}, {"blez a0, . + ", -1 << 12, 1<<12 - 2},
		{"c.j . + ", -1 << 11, 1<<11 - 2}, {"c.beqz a0, . + ", -1 << 8, 1<<8 - 2}, {"c.bnez a0, . + ", -1 << 8, 1<<8 - 2},
	} {
		for _, d := range []int64{c.below, c.above, 0, 2, -2} {
			got := textOf(t, at+c.text+signedText(d))[0x4000:]
			line := speak.List(got, api.RamBase+0x4000)
			if len(line) != 1 || !strings.HasSuffix(line[0], " "+hexText(uint64(api.RamBase+0x4000+d))) {
				t.Errorf("%s%d: %q", c.text, d, line)
			}
		}
		for _, d := range []int64{c.below - 2, c.above + 2, c.below - 1, c.above + 1, 1, -1, 3} {
			refused(t, at+" "+c.text+signedText(d), 2, 1, api.ErrReach)
		}
	}
	for _, c := range []struct{ ahead, behind, least, most string }{
		{"addi a0, a0, ", "", "-2048", "2047"}, {"lw a0, ", "(a0)", "-2048", "2047"}, {"sd a0, ", "(a0)", "-2048", "2047"}, {"jalr a0, ", "(a0)", "-2048", "2047"},
		{"lui a0, ", "", "0", "0xfffff"}, {"auipc a0, ", "", "0", "0xfffff"}, {"slli a0, a0, ", "", "0", "63"}, {"sraiw a0, a0, ", "", "0", "31"}, {"csrrwi a0, mepc, ", "", "0", "31"}, {"csrsi mepc, ", "", "0", "31"},
		{"c.addi a0, ", "", "-32", "31"}, {"c.nop ", "", "-32", "31"}, {"c.li a0, ", "", "-32", "31"}, {"c.slli a0, ", "", "0", "63"},
	} {
		made(t, c.ahead+c.least+c.behind)
		made(t, c.ahead+c.most+c.behind)
		made(t, "x: "+c.ahead+"x - x + "+c.most+c.behind)
		refused(t, c.ahead+c.least+" - 1"+c.behind, 1, 0, api.ErrReach)
		refused(t, c.ahead+c.most+" + 1"+c.behind, 1, 0, api.ErrReach)
		refused(t, "x: "+c.ahead+"x - x + 1 + "+c.most+c.behind, 1, 3, api.ErrReach)
		refused(t, c.ahead+"1 << 63"+c.behind, 1, 0, api.ErrReach)
	}
}

// TestSection8_5Registers: those that speak refuses, at the head.
func TestSection8_5Registers(t *testing.T) {
	for _, src := range []string{"c.addi zero, 1", "c.lw t0, 0(s0)", "c.lw a0, 0(sp)", "c.addi4spn a0, a0, 8", "c.addi16sp a0, 32", "c.lui sp, 1", "c.mv a0, zero", "c.jr zero", "c.lwsp zero, 0(sp)", "c.lwsp a0, 0(a0)", "c.beqz t0, .", "c.sub a0, ra"} {
		refused(t, "\n x: "+src, 2, 4, api.ErrOperand)
	}
	says(t, "add x0, fp, x31\nadd zero, s0, t6", "add zero, s0, t6", "add zero, s0, t6")
}

// TestSection8_5Odd: where instructions may stand.
func TestSection8_5Odd(t *testing.T) {
	gives(t, ".half 1\nnop\nc.nop\nnop", 1, 0, 0x13, 0, 0, 0, 1, 0, 0x13, 0, 0, 0)
	refused(t, ".byte 1\nx: nop", 2, 3, api.ErrPlace)
	refused(t, ".zero 3\nli a0, q", 2, 0, api.ErrPlace)
	refused(t, ".ascii \"a\"\ncall q q", 2, 0, api.ErrPlace)
	gives(t, ".byte 1\n.align 1\nc.nop\n.byte 1", 1, 0, 1, 0, 1)
}
