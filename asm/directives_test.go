package asm_test

import (
	"bytes"
	"strings"
	"testing"

	"anvil/api"
)

// zeros: so many bytes 0 and then the others.
func zeros(n int, behind ...byte) []byte { return append(make([]byte, n), behind...) }

func TestSection8_4Counts(t *testing.T) {
	for head, shapes := range modelHeads {
		if head[0] != '.' {
			continue
		}
		right := map[string]string{"n": "name", "v": "1", "q": `"t"`, "o": "rvc"}
		for _, operands := range []int{0, 1, 2, 3} {
			var list []string
			for i := range operands {
				letter := "v"
				if n := len(shapes[0].words); n > 0 {
					letter = shapes[0].words[min(i, n-1)]
				}
				list = append(list, right[letter])
			}
			src := "name: x:\n" + head + " " + strings.Join(list, ", ")
			if head == ".equ" || head == ".set" {
				src = strings.Replace(src, "name:", "", 1)
			}
			if head == ".org" {
				src = strings.ReplaceAll(src, "1", ".")
			}
			if operands == len(shapes[0].words) || shapes[0].many && operands > 0 {
				made(t, src)
			} else {
				refused(t, src, 2, 0, api.ErrOperand)
			}
		}
	}
}

func TestSection8_4Forms(t *testing.T) {
	for _, c := range []struct{ head, behind string }{
		{".equ", ", 1"}, {".set", ", 1"}, {".globl", ""}, {".global", ""}, {".globl", ", x"}, {".globl x, ", ""},
	} {
		for _, operand := range []string{"5", "1b", "'a'", `"x"`, ".", "(x)", "x y", "-x", "", "x + 1", "x :"} {
			if operand == "" && c.behind == "" {
				continue
			}
			refused(t, "x:\n  "+c.head+" "+operand+c.behind, 2, 2, api.ErrOperand)
		}
	}
	for _, head := range []string{".ascii", ".asciz", ".string"} {
		for _, operand := range []string{"5", "x", "'a'", `"x" "y"`, `("x")`, `"x" + 1`, ".", `"x",`, `,"x"`, `"x", 5`} {
			refused(t, "x:\n "+head+" "+operand, 2, 1, api.ErrOperand)
		}
	}
	for _, operand := range []string{"5", "x", "'r'", `"rvc"`, "RVC", "rvc rvc", "(rvc)", ".", "pic", "norelax"} {
		refused(t, "rvc:\n .option "+operand, 2, 1, api.ErrOperand)
	}
	for _, head := range []string{".org", ".byte", ".half", ".word", ".dword", ".zero", ".space", ".skip", ".align", ".p2align", ".balign", ".equ y,", ".set y,", ".byte 1,"} {
		refused(t, "x:\n"+head+` "t"`, 2, len(head)+1, api.ErrExpr)
		refused(t, "x:\n"+head+" 1 1", 2, len(head)+3, api.ErrExpr)
		refused(t, "x:\n"+head+" %lo(1)", 2, len(head)+1, api.ErrExpr)
		refused(t, "x:\n"+head+" (1", 2, len(head)+3, api.ErrExpr)
	}
}

// TestSection8_4Places: which directives stand in which sections.
func TestSection8_4Places(t *testing.T) {
	operands := map[string]string{".equ": "y, 1", ".set": "y, 1", ".globl": "x", ".global": "x", ".ascii": `"a"`, ".asciz": `"a"`, ".string": `"a"`, ".option": "rvc", ".text": "", ".data": "", ".bss": "", ".org": "0x80000010"}
	for _, head := range modelOrder {
		if head[0] != '.' {
			continue
		}
		operand, is := operands[head]
		if !is {
			operand = "1"
		}
		for _, section := range []string{".text", ".data", ".bss"} {
			src := "x:\n" + section + "\n y: " + head + " " + operand
			src = strings.Replace(src, "y: .equ", "z: .equ", 1)
			src = strings.Replace(src, "y: .set", "z: .set", 1)
			bytesHere := modelData.MatchString(head) || modelTexts.MatchString(head)
			if head == ".org" && section != ".text" || bytesHere && section == ".bss" {
				refused(t, src, 3, 4, api.ErrPlace)
				refused(t, strings.TrimSuffix(src, operand), 3, 4, api.ErrPlace) // ahead of the operands' faults
			} else {
				made(t, src)
			}
		}
	}
	for _, head := range modelOrder {
		if head[0] != '.' {
			refused(t, ".data\n "+head, 2, 1, api.ErrPlace)
			refused(t, ".bss\n "+head+" a, b, c, d", 2, 1, api.ErrPlace)
			refused(t, ".byte 1\n "+head, 2, 1, api.ErrPlace)
		}
	}
	made(t, ".data\n.byte 1\n.text\nnop\n.data\n.byte 1\n.text\nc.nop\nnop")
}

func TestSection8_4Data(t *testing.T) {
	gives(t, ".byte 0, 255, -1, -128", 0, 255, 255, 128)
	gives(t, ".half 0, 65535, -1, -32768", 0, 0, 255, 255, 255, 255, 0, 128)
	gives(t, ".word 0x12345678, 0xffffffff, -1, -0x80000000", 0x78, 0x56, 0x34, 0x12, 255, 255, 255, 255, 255, 255, 255, 255, 0, 0, 0, 128)
	gives(t, ".dword 0x123456789abcdef0, -1, 1 << 63", 0xf0, 0xde, 0xbc, 0x9a, 0x78, 0x56, 0x34, 0x12, 255, 255, 255, 255, 255, 255, 255, 255, 0, 0, 0, 0, 0, 0, 0, 128)
	for _, c := range []struct{ head, least, most string }{{".byte", "-129", "256"}, {".half", "-32769", "65536"}, {".word", "-0x80000001", "0x100000000"}} {
		at := len(c.head) + 1
		refused(t, c.head+" "+c.least, 1, at, api.ErrRange)
		refused(t, c.head+" "+c.most, 1, at, api.ErrRange)
		refused(t, c.head+" 1, (1) + 2, 1 * "+c.most, 1, at+12, api.ErrRange)
		refused(t, c.head+" 1 << 63", 1, at, api.ErrRange)
		refused(t, c.head+" "+c.most+", z", 1, at, api.ErrRange)
		refused(t, c.head+" z, "+c.most, 1, at, api.ErrNoName)
		refused(t, c.head+" 1 / 0, "+c.most, 1, at+2, api.ErrZero)
	}
	gives(t, ".byte 1\n.dword 2\n.half 3", 1, 2, 0, 0, 0, 0, 0, 0, 0, 3, 0)
	gives(t, ".word 'é', x\nx:", 0xe9, 0, 0, 0, 8, 0, 0, 0x80)
}

func TestSection8_4Texts(t *testing.T) {
	gives(t, `.ascii "ab", "", "c"`, 'a', 'b', 'c')
	gives(t, `.asciz "ab", "", "c"`, 'a', 'b', 0, 0, 'c', 0)
	gives(t, `.string "ab", "c\0"`, 'a', 'b', 0, 'c', 0, 0)
	gives(t, `.ascii ""`)
	gives(t, `.asciz ""`, 0)
}

func TestSection8_4Org(t *testing.T) {
	gives(t, ".org 0x80000000\n.byte 1\n.org 0x80000004\n.byte 2\n.org .\n.org . + 1\n.byte 3", 1, 0, 0, 0, 2, 0, 3)
	refused(t, ".byte 1\n x: .org 0x80000000", 2, 4, api.ErrPlace)
	refused(t, ".org 0x7fffffff", 1, 0, api.ErrPlace)
	refused(t, ".org 0", 1, 0, api.ErrPlace)
	refused(t, ".org -1", 1, 0, api.ErrPlace)
	if n := len(textOf(t, ".org 0x80010000")); n != api.MaxRam {
		t.Errorf("%d bytes", n)
	}
	refused(t, ".org 0x80010001", 1, 0, api.ErrPlace)
	refused(t, ".org 0x80010000\n.byte 1", 2, 0, api.ErrRange)
}

func TestSection8_4Zero(t *testing.T) {
	for _, head := range []string{".zero", ".space", ".skip"} {
		gives(t, ".byte 1\n"+head+" 0\n"+head+" 3\n.byte 1", 1, 0, 0, 0, 1)
		if n := len(textOf(t, head+" 65536")); n != api.MaxRam {
			t.Errorf("%d bytes", n)
		}
		refused(t, " "+head+" 65537", 1, 1, api.ErrRange)
		refused(t, " "+head+" -1", 1, 1, api.ErrRange)
		refused(t, ".byte 1\n "+head+" 65536", 2, 1, api.ErrRange)
		im := made(t, ".bss\n.byte: "+head+" 65536")
		if len(im.Segs) != 1 || im.Segs[0].Size != api.MaxRam || im.Segs[0].Data != nil {
			t.Errorf("%+v", im.Segs)
		}
		refused(t, ".bss\n"+head+" 1\n"+head+" 65536", 3, 0, api.ErrRange)
	}
}

func TestSection8_4Align(t *testing.T) {
	for n := range uint64(13) {
		for _, head := range []string{".align ", ".p2align ", ".balign 1 << "} {
			src := ".byte 1\n" + head + strings.Repeat("1 + ", int(n)) + "0\n.byte 2"
			if head == ".balign 1 << " {
				src = strings.Replace(src, "1 + ", "(1 + ", 1) // the sum binds stronger: no matter
				src = strings.Replace(src, "0\n.byte 2", "0)\n.byte 2", 1)
				if n == 0 {
					src = strings.Replace(src, "0)", "0", 1)
				}
			}
			gap := 1<<n - 1
			gives(t, src, append([]byte{1}, zeros(gap, 2)...)...)
		}
	}
	gives(t, ".align 2\n.balign 4096\n.byte 1\n.align 0\n.balign 1\n.byte 1", 1, 1)
	for _, operand := range []string{"13", "14", "63", "64", "65", "4096", "-1", "1 << 32", "1 << 63"} {
		refused(t, " .align "+operand, 1, 1, api.ErrRange)
		refused(t, " .p2align "+operand, 1, 1, api.ErrRange)
	}
	for _, operand := range []string{"0", "3", "5", "12", "13", "4095", "4097", "8192", "-1", "-4096", "1 << 32", "1 << 63"} {
		refused(t, " .balign "+operand, 1, 1, api.ErrRange)
	}
	// of the place in the section, not of the address: both are the same where sections begin at their alignment
	im := made(t, "nop\n.data\n.byte 1\n.align 3\nx: .byte 2\n.bss\n.zero 1\n.balign 64\ny: .zero 1")
	if len(im.Segs) != 3 || im.Segs[1].Addr != 0x80000010 || im.Segs[1].Size != 9 || im.Segs[2].Addr != 0x80000040 || im.Segs[2].Size != 65 {
		t.Errorf("%+v", im.Segs)
	}
	gives(t, ".zero 65535\n.align 12", make([]byte, api.MaxRam)...)
}

// TestSection8_4Begin: where .data and .bss begin.
func TestSection8_4Begin(t *testing.T) {
	for _, c := range []struct {
		src       string
		data, bss uint64
	}{
		{"", 0, 0},
		{".byte 1", 0x10, 0x10},
		{".zero 16", 0x10, 0x10},
		{".zero 17", 0x20, 0x20},
		{".data\n.byte 1", 0, 0x10},
		{".byte 1\n.data\n.byte 1", 0x10, 0x20},
		{".byte 1\n.data\n.align 2\n.byte 1\n.bss\n.align 3", 0x10, 0x20},
		{".byte 1\n.data\n.align 4\n.byte 1\n.bss\n.balign 16", 0x10, 0x20},
		{".byte 1\n.data\n.align 5\n.byte 1\n.align 1\n.bss", 0x20, 0x30},
		{".byte 1\n.data\n.byte 1\n.balign 64\n.balign 32", 0x40, 0x80},
		{".byte 1\n.data\n.align 12\n.bss\n.balign 4096", 0x1000, 0x1000},
		{".byte 1\n.data\n.align 12\n.byte 1\n.bss\n.balign 4096", 0x1000, 0x2000},
		{".byte 1\n.bss\n.p2align 8\n.zero 1\n.text\n.byte 1\n.data\n.byte 1", 0x10, 0x100},
		{".align 12\n.byte 1\n.align 6\n.byte 1", 0x50, 0x50}, // .text's own alignments move nothing
	} {
		im := made(t, c.src+"\n.data\nd.end:\n.bss\nb.end:\n.text\n.globl d.end")
		size := map[string]uint64{}
		for _, s := range im.Segs {
			switch {
			case s.Flags == api.R+api.X:
			case s.Data != nil:
				size["d.end"] = s.Size
			default:
				size["b.end"] = s.Size
			}
		}
		for _, s := range im.Syms {
			if want := map[string]uint64{"d.end": c.data, "b.end": c.bss}[s.Name]; s.Value-size[s.Name]-api.RamBase != want {
				t.Errorf("%q: %s at %#x, want it %#x behind %#x", c.src, s.Name, s.Value, size[s.Name], want)
			}
		}
	}
}

// TestSection8_4Early: what early expressions may use.
func TestSection8_4Early(t *testing.T) {
	ahead := "t: 1: .byte 0\n.equ c, 3\n.data\nd: 2: .byte 0\n.bss\nb: 3:\n.text\n"
	behind := "\nlater:\n4: 1:\n.equ late, 1\n"
	early := []string{".equ k, ", ".set k, ", ".zero ", ".skip ", ".space ", ".align ", ".p2align ", ".balign ", ".org . + ", ".balign 2\nli a0, "}
	for _, e := range early {
		from := len(e) - strings.LastIndex(e, "\n") - 1
		line := 8 + strings.Count(e, "\n")
		for expr, at := range map[string]int{"later": 0, "late": 0, "d": 0, "b": 0, "2b": 0, "3b": 0, "4f": 0, "4b": 0, "1f": 0, "nothing": 0, "c + later": 4, "1b - 1b + d": 10, "k": 0, "(c * (d))": 6} {
			refused(t, ahead+e+expr+behind, line, from+at, api.ErrNoName)
		}
		for _, expr := range []string{"c - 1", "t - 1b + 1", "1b - t + 1", ". - . + 1", "((. - t) & 0 | 1)", "'a' - 96", "0b10", "own - own + 1", "9b - 9b + 1"} {
			at := strings.LastIndex(e, "\n") + 1
			made(t, ahead+e[:at]+"own: 9: "+e[at:]+expr+behind)
		}
		refused(t, ahead+e+"1 / (c - 3)"+behind, line, from+2, api.ErrZero)
	}
	for _, section := range []string{".data", ".bss"} {
		for _, e := range early[:8] {
			refused(t, ahead+section+"\n"+e+". - . + 1"+behind, 9, len(e), api.ErrNoName)
			made(t, ahead+section+"\n"+e+"(t - 1b) * c + 1"+behind)
			refused(t, ahead+section+"\nq: 7: "+e+"q - q + 1"+behind, 9, 6+len(e), api.ErrNoName)
			refused(t, ahead+section+"\nq: 7: "+e+"7b - 7b + 1"+behind, 9, 6+len(e), api.ErrNoName)
		}
	}
	// the last label of that number counts, though one of .text is farther ahead
	refused(t, "1: .byte 0\n.data\n1:\n.text\n.zero 1b - 1b", 5, 6, api.ErrNoName)
	refused(t, ".equ x, x", 1, 8, api.ErrNoName)
	gives(t, ".equ x, 2\n.equ y, x * x\n.zero y - 1\n.byte y, x", 0, 0, 0, 4, 2)
	gives(t, "x: .byte 1\n.equ y, . - x\ny2: .byte y\n.equ y3, y2", 1, 1)
	gives(t, ".byte 1, x\n.equ x, 5", 1, 5) // late: .byte's own expressions are not early
}

func TestSection8_4Globl(t *testing.T) {
	gives(t, ".globl x, y\n.global z\nx: .byte 1\n.equ y, 2\n.data\nz:", 1)
	refused(t, ".globl q", 1, 7, api.ErrNoName)
	refused(t, "x:\n.global x, q, x, r", 2, 11, api.ErrNoName)
	refused(t, "x: 1:\n.globl x\n.globl X", 3, 7, api.ErrNoName)
	refused(t, ".globl q\n.byte 1 +", 2, 9, api.ErrExpr) // it is told by the second walk
	refused(t, ".byte z\n.globl q", 1, 6, api.ErrNoName)
}

func TestSection8_4Option(t *testing.T) {
	gives(t, ".option rvc\nnop\n.option norvc\nnop\n.data\n.option rvc\n.text\nnop", 1, 0, 0x13, 0, 0, 0, 1, 0)
	gives(t, ".option norvc\nnop", 0x13, 0, 0, 0)
}

func TestSection8_4Sections(t *testing.T) {
	im := made(t, ".byte 1\n.data\n.byte 2\n.text\n.byte 3\n.bss\n.zero 2\n.data\n.byte 4\n.bss\n.zero 1")
	if len(im.Segs) != 3 || !bytes.Equal(im.Segs[0].Data, []byte{1, 3}) || !bytes.Equal(im.Segs[1].Data, []byte{2, 4}) || im.Segs[2].Size != 3 {
		t.Errorf("%+v", im.Segs)
	}
}
