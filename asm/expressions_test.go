package asm_test

import (
	"strings"
	"testing"

	"anvil/api"
)

func TestSection8_3Strength(t *testing.T) {
	ab := []api.Sym{{Name: "a", Value: 3}, {Name: "b", Value: 9}, {Name: "a", Value: 4}}
	for expr, want := range map[string]uint64{
		"1 | 2 ^ 3":            1 | (2 ^ 3),
		"1 ^ 3 & 2":            1 ^ (3 & 2),
		"12 & 1 << 2":          12 & (1 << 2),
		"1 << 2 & 12":          (1 << 2) & 12,
		"1 << 2 + 1":           1 << 3,
		"256 >> 1 + 1":         64,
		"1 + 2 * 3":            7,
		"2 * 3 + 1":            7,
		"2 * 3 + 1 << 1":       14,
		"10 - 4 - 3":           3,
		"10 - 4 + 3":           9,
		"100 / 10 / 2":         5,
		"100 / 10 * 2":         20,
		"2 * 100 / 3":          66,
		"100 % 7 * 2":          4,
		"2 * 7 % 4":            2,
		"7 - 9 / 2":            3,
		"1 << 2 << 3":          32,
		"256 >> 2 >> 3":        8,
		"256 >> 2 << 3":        512,
		"6 & 3 ^ 1 | 8":        11,
		"8 | 1 ^ 3 & 6":        11,
		"(1 | 2) ^ 3":          0,
		"(1 + 2) * 3":          9,
		"2 * (3 + 4)":          14,
		"((((5))))":            5,
		"-1":                   1<<64 - 1,
		"- 1":                  1<<64 - 1,
		"--5":                  5,
		"---5":                 1<<64 - 5,
		"-~0":                  1,
		"~-0":                  1<<64 - 1,
		"~~7":                  7,
		"+5":                   5,
		"+ + +5":               5,
		"-+~5":                 6,
		"2 - -3":               5,
		"2 + -3":               1<<64 - 1,
		"2 * -3":               1<<64 - 6,
		"-2 * 3":               1<<64 - 6,
		"-(2 + 3)":             1<<64 - 5,
		"~(2 + 3) + 6":         0,
		"-1 >> 63":             1,
		"~1 & 3":               2,
		"1 - 2":                1<<64 - 1,
		most + " + 1":          0,
		most + " * " + most:    1,
		"0x8000000000000000*2": 0,
		"-1 / 2":               1<<63 - 1,
		"-1 / -1":              1,
		"1 / -1":               0,
		"-7 % 5":               (1<<64 - 7) % 5,
		"7 % -1":               7,
		"0 / 7":                0,
		"0 % 7":                0,
		"1 << 0":               1,
		"1 << 63":              1 << 63,
		"3 << 63":              1 << 63,
		"1 << 64":              0,
		"1 << 65":              0,
		"1 << -1":              0,
		"1 << 4294967296":      0,
		"-1 >> 0":              1<<64 - 1,
		"7 >> 64":              0,
		"-1 >> 64":             0,
		"-1 >> " + most:        0,
		"a":                    3,
		"b - a":                6,
		"a*b+a":                30,
		"'a' - a":              'a' - 3,
		"a-a":                  0,
		"(a)-(b)+(b)":          3,
		" ( a ) # note":        3,
		"\ta\r":                3,
	} {
		worth(t, expr, want, ab...)
		gives(t, ".equ a, 3\n.equ b, 9\n.dword "+expr, byte(want), byte(want>>8), byte(want>>16), byte(want>>24), byte(want>>32), byte(want>>40), byte(want>>48), byte(want>>56))
	}
}

func TestSection8_3Form(t *testing.T) {
	for _, c := range []struct {
		expr string
		at   int
	}{
		{"", 0}, {" \t", 0}, {"# c", 0}, {" # 1", 0}, {"1 +", 3}, {"1 + # c", 3}, {"1 +   ", 3}, {"-", 1}, {"1 2", 2}, {"1 a", 2}, {"a b", 2}, {"a 'x'", 2}, {"1 ~ 2", 2}, {"1 ~2", 2},
		{"()", 1}, {"(", 1}, {"(1", 2}, {"(1 ", 2}, {"1)", 1}, {")", 0}, {"(1))", 3}, {"((1)", 4}, {"(1 2)", 3}, {"1 (2)", 2}, {"(1)(2)", 3}, {"(1) 2", 4}, {"* 1", 0}, {"/ 1", 0}, {"1 * / 2", 4}, {"1 + * 2", 4}, {"(+)", 2}, {"1 | | 2", 4}, {"1 << >> 2", 5},
		{"% 1", 0}, {"%hi(1)", 0}, {"1 + %lo(1)", 4}, {"1, 2", 1}, {",", 0}, {":", 0}, {"a: 1", 1}, {`"a"`, 0}, {`1 + "a"`, 4}, {"1b 1", 3}, {". .", 2}, {"-+~", 3}, {"(-)", 2}, {"1 - ", 3}, {"x + (1 / 0", 10},
	} {
		worthless(t, c.expr, c.at, api.ErrExpr)
	}
	for _, c := range []struct {
		src string
		at  int
	}{
		{".byte 1 +, 2", 9}, {".byte , 2", 6}, {".byte 1 2, 3", 8}, {".byte (1, 2), 3", 8}, {".byte (1", 8}, {".byte 1)", 7}, {".byte 1, (2", 11}, {".byte 1, 2 -  # c", 12}, {"lw a0, 1 +(a1)", 10}, {"lw a0, 1 2(a1)", 9}, {"lw a0, (1(a1)", 9}, {"addi a0, a0, %lo()", 17}, {"addi a0, a0, %lo(1 + )", 21}, {"lw a0, %lo()(a1)", 11}, {"lw a0, %lo(1 2)(a1)", 13}, {"addi a0, a0,", 12}, {"li a0,", 6}, {"li a0, %lo(1)", 7}, {"j %lo(1)", 2}, {"j", -1}, {".word %hi(1)", 6}, {"csrw %lo(1), a0", 5}, {"csrr a0, mstatus + ", 18}, {"csrr a0, mstatus mstatus", 17}, {"csrr a0,", 8},
	} {
		if c.at < 0 {
			refused(t, c.src, 1, 0, api.ErrOperand)
			continue
		}
		refused(t, c.src, 1, c.at, api.ErrExpr)
	}
}

func TestSection8_3Deep(t *testing.T) {
	in := func(n int, s string) string { return strings.Repeat("(", n) + s + strings.Repeat(")", n) }
	worth(t, in(api.MaxDeep, "7"), 7)
	worth(t, in(api.MaxDeep, "7")+"+"+in(api.MaxDeep, "8"), 15)
	worth(t, "1 + "+in(api.MaxDeep-1, "2 * ("+in(0, "3")+") * (4)"), 25)
	worthless(t, in(api.MaxDeep+1, "7"), api.MaxDeep, api.ErrDeep)
	worthless(t, in(api.MaxDeep, "1 + (7)"), api.MaxDeep+4, api.ErrDeep)
	worthless(t, strings.Repeat("(", 999), api.MaxDeep, api.ErrDeep)
	worthless(t, "(1 2)"+in(api.MaxDeep+1, "7"), 3, api.ErrExpr)
	worthless(t, in(api.MaxDeep+1, "7 7"), api.MaxDeep, api.ErrDeep)
	worthless(t, in(api.MaxDeep+1, "?"), api.MaxDeep+1, api.ErrLine)
	worthless(t, strings.Repeat("-(", 31)+"1"+strings.Repeat(")", 31), 61, api.ErrDeep)
	deep, deeper := in(api.MaxDeep, "0"), in(api.MaxDeep+1, "0")
	for _, c := range []struct {
		ahead, behind string
	}{
		{".byte ", ""}, {".equ x, ", ""}, {"li a0, ", ""}, {"addi a0, a0, %lo(", ")"}, {"lw a0, ", "(a1)"}, {"lw a0, %lo(", ")(a1)"}, {"lui a0, %hi(", ")"}, {".zero ", ""}, {".byte 1, ", ""}, {"csrr a0, ", ""},
	} {
		made(t, c.ahead+deep+c.behind)
		refused(t, c.ahead+deeper+c.behind, 1, len(c.ahead)+api.MaxDeep, api.ErrDeep)
	}
	worth(t, strings.Repeat("-", 998)+"1", 1)
	worth(t, strings.Repeat("~", 999)+"1", ^uint64(1))
}

func TestSection8_3Values(t *testing.T) {
	worthless(t, "1 / 0", 2, api.ErrZero)
	worthless(t, "1 % 0", 2, api.ErrZero)
	worthless(t, "0 / 0", 2, api.ErrZero)
	worthless(t, "1 / (2 - 2)", 2, api.ErrZero)
	worthless(t, "1 / (1 << 64)", 2, api.ErrZero)
	worthless(t, "1 / 0 / 0", 2, api.ErrZero)
	worthless(t, "1 / (1 % 0)", 7, api.ErrZero)
	worthless(t, "(1 / 0) % 0", 3, api.ErrZero)
	worthless(t, "1 % 0 + z", 2, api.ErrZero)
	worthless(t, "z + 1 % 0", 0, api.ErrNoName)
	worthless(t, "z / 0", 0, api.ErrNoName)
	worthless(t, "1 / 0 * z", 2, api.ErrZero)
	worthless(t, "1 / (0 * z)", 9, api.ErrNoName)
	worthless(t, "0 * z", 4, api.ErrNoName)
	worthless(t, "y + z", 0, api.ErrNoName)
	worthless(t, "1 | 2 / 0 | z", 6, api.ErrZero)
	worthless(t, "1 + 2 * z + 3 / 0", 8, api.ErrNoName)
	worthless(t, "-(1 / 0)", 4, api.ErrZero)
	worthless(t, "z + (", 5, api.ErrExpr) // form ahead of value
	worthless(t, "z + ?", 4, api.ErrLine) // tokens ahead of both
	worthless(t, "1 / 0 )", 6, api.ErrExpr)
	worthless(t, "1f", 0, api.ErrNoName)
	worthless(t, "0b", 0, api.ErrNoName)
	worthless(t, "2 + .", 4, api.ErrNoName)
}

func TestValueNames(t *testing.T) {
	names := []api.Sym{{Name: "a", Value: 1}, {Name: "b", Value: 2}, {Name: "a", Value: 3}, {Name: ".", Value: 4}, {Name: "1b", Value: 5}, {Name: "", Value: 6}, {Name: "b", Value: 7}, {Name: "1f", Value: 8}, {Name: "9", Value: 8}}
	worth(t, "a", 1, names...)
	worth(t, "b", 2, names...)
	worth(t, "9", 9, names...)
	worthless(t, ".", 0, api.ErrNoName, names...)
	worthless(t, "1b", 0, api.ErrNoName, names...)
	worthless(t, "1f", 0, api.ErrNoName, names...)
	worthless(t, "A", 0, api.ErrNoName, names...)
	worthless(t, "aa", 0, api.ErrNoName, names...)
	worthless(t, "a.", 0, api.ErrNoName, names...)
	worth(t, "a0 + nop + mstatus", 6, api.Sym{Name: "a0", Value: 1}, api.Sym{Name: "nop", Value: 2}, api.Sym{Name: "mstatus", Value: 3})
}

func TestValueLine(t *testing.T) {
	worthless(t, "1\n", 1, api.ErrLine)
	worthless(t, "\n1", 0, api.ErrLine)
	worthless(t, "1\n+ 2", 1, api.ErrLine)
	worthless(t, "'\n'", 0, api.ErrLine)
	worth(t, "1 # c\n ? \n 2", 1)
	worth(t, strings.Repeat("0", api.MaxLine-1)+"5", 5)
	worth(t, "5"+strings.Repeat(" ", api.MaxLine-1), 5)
	worth(t, "5#"+strings.Repeat("\n", api.MaxLine-2), 5)
	worthless(t, strings.Repeat("0", api.MaxLine+1), api.MaxLine, api.ErrLine)
	worthless(t, "5"+strings.Repeat(" ", api.MaxLine), api.MaxLine, api.ErrLine)
	worthless(t, "?"+strings.Repeat(" ", api.MaxLine), api.MaxLine, api.ErrLine)
	worthless(t, "5 #"+strings.Repeat("é", api.MaxLine/2), api.MaxLine, api.ErrLine)
}

func TestSection8_3Names(t *testing.T) {
	gives(t, "x: .byte y - x, z, x - 0x80000000\ny: .equ z, 7", 3, 7, 0)
	gives(t, ".half 1\nx: .half . - x, . - 0x80000000, y - .\ny:", 1, 0, 0, 0, 2, 0, 6, 0)
	refused(t, ".byte 1, z", 1, 9, api.ErrNoName)
	refused(t, "nop\n .byte 1 - z", 2, 11, api.ErrNoName)
	refused(t, "x:\n.byte X", 2, 6, api.ErrNoName)
	im := made(t, ".data\nd: .byte . - d\n.half . - d\n.bss\n.byte: .zero 4\ne:\n.data\n.dword e, .byte, .")
	if d := im.Segs[0].Data; d[0] != 0 || d[1] != 1 || d[3] != 0x24 || d[11] != 0x20 || d[19] != 3 {
		t.Errorf("% x", d)
	}
}

func TestSection8_3Locals(t *testing.T) {
	base := " - 0x80000000"
	gives(t, "1: .byte 1b"+base+", 1f"+base+"\n1: .byte 1b"+base+", 2f"+base+"\n2:", 0, 2, 2, 4)
	gives(t, "1: 1: .byte 1\n1: 2: 1: .byte 1b"+base+", 2b"+base+"\n.byte 1f"+base+"\n1: 1:", 1, 1, 1, 4)
	gives(t, ".byte 0f"+base+", 00f"+base+"\n0: .byte 0b"+base+"\n000: .byte 0b"+base, 2, 2, 2, 3)
	gives(t, "1: .byte 1\n.data\n1:\n.text\n.word 1b", 1, 0x10, 0, 0, 0x80) // of any section, in the source's order
	refused(t, ".byte 1b\n1:", 1, 6, api.ErrNoName)
	refused(t, "1: .byte 1f", 1, 9, api.ErrNoName)
	refused(t, "1:\n2: .byte 1b"+base+", 2f\n3:", 2, 26, api.ErrNoName)
	refused(t, "11: .byte 1b", 1, 10, api.ErrNoName)
	refused(t, ".byte 3 + 3f * 2", 1, 10, api.ErrNoName)
	says(t, "1: beq a0, a1, 1b\n2: j 2f\n2: j 2b\nj 1b", "beq a0, a1, 0x80000000", "jal zero, 0x80000008", "jal zero, 0x80000008", "jal zero, 0x80000000")
}
