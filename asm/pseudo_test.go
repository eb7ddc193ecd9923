package asm_test

import (
	"math/rand/v2"
	"strconv"
	"strings"
	"testing"

	"anvil/api"
	"anvil/asm"
	"anvil/speak"
)

func TestSection8_6Pseudo(t *testing.T) {
	for src, want := range map[string]string{
		"nop":                 "addi zero, zero, 0",
		"mv a0, a1":           "addi a0, a1, 0",
		"not a0, a1":          "xori a0, a1, -1",
		"neg a0, a1":          "sub a0, zero, a1",
		"negw a0, a1":         "subw a0, zero, a1",
		"sext.w a0, a1":       "addiw a0, a1, 0",
		"seqz a0, a1":         "sltiu a0, a1, 1",
		"snez a0, a1":         "sltu a0, zero, a1",
		"sltz a0, a1":         "slt a0, a1, zero",
		"sgtz a0, a1":         "slt a0, zero, a1",
		"x: beqz a0, x":       "beq a0, zero, 0x80000000",
		"x: bnez a0, x + 4":   "bne a0, zero, 0x80000004",
		"bgez a0, . - 2":      "bge a0, zero, 0x7ffffffe",
		"bltz a0, 1f\n1:":     "blt a0, zero, 0x80000004",
		"1: blez a0, 1b":      "bge zero, a0, 0x80000000",
		"bgtz a0, 0x80000008": "blt zero, a0, 0x80000008",
		"bgt a0, a1, .":       "blt a1, a0, 0x80000000",
		"ble a0, a1, .":       "bge a1, a0, 0x80000000",
		"bgtu a0, a1, .":      "bltu a1, a0, 0x80000000",
		"bleu a0, a1, .":      "bgeu a1, a0, 0x80000000",
		"j . + 8":             "jal zero, 0x80000008",
		"jal . + 8":           "jal ra, 0x80000008",
		"jal t0, . + 8":       "jal t0, 0x80000008",
		"jr a0":               "jalr zero, 0(a0)",
		"jalr a0":             "jalr ra, 0(a0)",
		"jalr a0, 4(a1)":      "jalr a0, 4(a1)",
		"ret":                 "jalr zero, 0(ra)",
		"csrr a0, mepc":       "csrrs a0, mepc, zero",
		"csrr a0, 0x7c0":      "csrrs a0, 0x7c0, zero",
		"csrw mepc, a0":       "csrrw zero, mepc, a0",
		"csrs mepc, a0":       "csrrs zero, mepc, a0",
		"csrc 0x341, a0":      "csrrc zero, mepc, a0",
		"csrwi mepc, 31":      "csrrwi zero, mepc, 31",
		"csrsi mepc, 0":       "csrrsi zero, mepc, 0",
		"csrci 833, %lo(8)":   "csrrci zero, mepc, 8",
		"rdcycle a0":          "csrrs a0, cycle, zero",
		"rdtime x0":           "csrrs zero, time, zero",
		"rdinstret t6":        "csrrs t6, instret, zero",
		"fence":               "fence iorw, iorw",
	} {
		says(t, src, want)
	}
}

// TestSection8_6Far: call, tail, la and lla, by what auipc and the low part come to.
func TestSection8_6Far(t *testing.T) {
	says(t, "call .", "auipc ra, 0x0", "jalr ra, 0(ra)")
	says(t, "tail . + 0x7ff", "auipc t1, 0x0", "jalr zero, 2047(t1)")
	says(t, "la a0, . + 0x800", "auipc a0, 0x1", "addi a0, a0, -2048")
	says(t, "lla s11, . - 1", "auipc s11, 0x0", "addi s11, s11, -1")
	says(t, "nop\nla zero, 0x80000000", "addi zero, zero, 0", "auipc zero, 0x0", "addi zero, zero, -4")
	says(t, "la a0, . - 0x801", "auipc a0, 0xfffff", "addi a0, a0, 2047")
	says(t, "1: la x10, 1f\n1: call 1b", "auipc a0, 0x0", "addi a0, a0, 8", "auipc ra, 0x0", "jalr ra, 0(ra)")
	for _, head := range []string{"call ", "tail ", "la a0, ", "lla a0, "} {
		for _, far := range []int64{-1<<31 - 1<<11, 1<<31 - 1<<11 - 1, -1 << 31, 1<<31 - 1<<12, 0} {
			src := ".half 0\n" + head + ". + " + signedText(far)
			lines := speak.List(textOf(t, src)[2:], api.RamBase+2)
			if got := farOf(t, lines); got != far {
				t.Errorf("%q: %q: %d", src, lines, got)
			}
		}
		for _, far := range []string{"-(1 << 31) - (1 << 11) - 1", "(1 << 31) - (1 << 11)", "(1 << 63)", "(1 << 32)", "-(1 << 63)"} {
			refused(t, "nop\n x: "+head+". + "+far, 2, 4, api.ErrReach)
		}
		refused(t, head+"q", 1, len(head), api.ErrNoName)
		refused(t, head+"1 % 0", 1, len(head)+2, api.ErrZero)
		refused(t, head+"1f", 1, len(head), api.ErrNoName)
	}
	made(t, "call 0")
	refused(t, "call 0x100000000000", 1, 0, api.ErrReach)
}

// farOf: how far the two lines reach.
func farOf(t *testing.T, lines []string) int64 {
	t.Helper()
	if len(lines) != 2 {
		t.Fatalf("%q", lines)
	}
	fields := func(s string) []string {
		return strings.FieldsFunc(s, func(r rune) bool { return strings.ContainsRune(" ,()", r) })
	}
	hi, err := strconv.ParseInt(fields(lines[0])[2], 0, 64)
	if err != nil {
		t.Fatal(err)
	}
	for _, word := range fields(lines[1]) {
		if lo, err := strconv.ParseInt(word, 10, 64); err == nil {
			return int64(int32(hi<<12)) + lo
		}
	}
	t.Fatalf("%q", lines)
	return 0
}

func TestSection8_6Li(t *testing.T) {
	for v, want := range map[string]string{
		"0":                    "addi a0, zero, 0",
		"1":                    "addi a0, zero, 1",
		"2047":                 "addi a0, zero, 2047",
		"-2048":                "addi a0, zero, -2048",
		"2048":                 "lui a0, 0x1; addiw a0, a0, -2048",
		"-2049":                "lui a0, 0xfffff; addiw a0, a0, 2047",
		"4095":                 "lui a0, 0x1; addiw a0, a0, -1",
		"4096":                 "lui a0, 0x1",
		"-4096":                "lui a0, 0xfffff",
		"0x7ffff7ff":           "lui a0, 0x7ffff; addiw a0, a0, 2047",
		"0x7ffff800":           "lui a0, 0x80000; addiw a0, a0, -2048",
		"0x7fffffff":           "lui a0, 0x80000; addiw a0, a0, -1",
		"-0x80000000":          "lui a0, 0x80000",
		"-0x7fffffff":          "lui a0, 0x80000; addiw a0, a0, 1",
		"0x80000000":           "addi a0, zero, 1; slli a0, a0, 31",
		"0x80000001":           "addi a0, zero, 1; slli a0, a0, 31; addi a0, a0, 1",
		"-0x80000001":          "addi a0, zero, -1; slli a0, a0, 31; addi a0, a0, -1",
		"0xffffffff":           "addi a0, zero, 1; slli a0, a0, 32; addi a0, a0, -1",
		"0x100000000":          "addi a0, zero, 1; slli a0, a0, 32",
		"1 << 63":              "addi a0, zero, -1; slli a0, a0, 63",
		"(1 << 63) - 1":        "addi a0, zero, -1; slli a0, a0, 63; addi a0, a0, -1",
		"(1 << 63) + 1":        "addi a0, zero, -1; slli a0, a0, 63; addi a0, a0, 1",
		"0x123456789abcdef0":   "lui a0, 0x247; addiw a0, a0, -1875; slli a0, a0, 14; addi a0, a0, -947; slli a0, a0, 12; addi a0, a0, 1511; slli a0, a0, 13; addi a0, a0, -272",
		"0x12345678":           "lui a0, 0x12345; addiw a0, a0, 1656",
		"-1":                   "addi a0, zero, -1",
		"1 - 1 - 1":            "addi a0, zero, -1",
		"0x00000fff00000000":   "lui a0, 0x1; addiw a0, a0, -1; slli a0, a0, 32",
		"0x0000080000000800":   "addi a0, zero, 1; slli a0, a0, 31; addi a0, a0, 1; slli a0, a0, 12; addi a0, a0, -2048",
		"18446744073709551615": "addi a0, zero, -1",
	} {
		says(t, "li a0, "+v, strings.Split(want, "; ")...)
	}
	says(t, "x: li t0, x\n.equ k, 5\nli t0, k\nli x7, . - x", "addi t0, zero, 1", "slli t0, t0, 31", "addi t0, zero, 5", "addi t2, zero, 12")
	refused(t, "li a0, q", 1, 7, api.ErrNoName)
	refused(t, "li a0, 1 / 0\n.byte 1 +", 1, 9, api.ErrZero) // early: by the first walk
	refused(t, "li q, 5", 1, 0, api.ErrOperand)
}

// run does the instructions that rows are made of, and no others.
func run(t *testing.T, lines []string, x *[32]uint64) {
	t.Helper()
	for i, line := range lines {
		in, why := speak.Parse(line, api.RamBase)
		if why != api.OK {
			t.Fatalf("%q: %v", line, why)
		}
		v := uint64(0)
		switch in.Op {
		case api.OpAddi:
			v = x[in.Rs1] + uint64(in.Imm)
		case api.OpAddiw:
			v = uint64(int64(int32(x[in.Rs1] + uint64(in.Imm))))
		case api.OpLui:
			v = uint64(in.Imm)
		case api.OpSlli:
			v = x[in.Rs1] << uint(in.Imm)
		default:
			t.Fatalf("%q (%d of %q) is in no row", line, i, lines)
		}
		if in.Rd != 0 {
			x[in.Rd] = v
		}
	}
}

// rowHolds: li of v puts v into its register and changes no other, long and short, in at most eight instructions.
func rowHolds(t *testing.T, r *rand.Rand, v uint64) {
	t.Helper()
	d := r.IntN(32)
	for _, option := range []string{"", ".option rvc\n"} {
		code := textOf(t, option+"li "+speak.Reg(d)+", "+hexText(v))
		lines := speak.List(code, api.RamBase)
		if len(lines) > 8 || len(lines) == 0 {
			t.Fatalf("P8.5: %#x: %d instructions", v, len(lines))
		}
		var x [32]uint64
		for i := range x {
			x[i] = r.Uint64()
		}
		x[0] = 0
		want := x
		if d != 0 {
			want[d] = v
		}
		if run(t, lines, &x); x != want {
			t.Fatalf("P8.5: %#x into %s: %q", v, speak.Reg(d), lines)
		}
		if option == "" && len(code) != 4*len(lines) {
			t.Fatalf("P8.5: %#x: %q in %d bytes", v, lines, len(code))
		}
	}
}

func TestP8_5Li(t *testing.T) {
	r := rand.New(rand.NewPCG(85, 8))
	for i := range 64 {
		for _, d := range []uint64{0, 1, 2, 0x7ff, 0x800, 0x801, 0xfff, 0x1000} {
			one := uint64(1) << i
			for _, v := range []uint64{one + d, one - d, -one + d, -one - d, d<<i + 1, -(d << i)} {
				rowHolds(t, r, v)
			}
		}
	}
	for range 4000 {
		v := r.Uint64() >> r.IntN(64) << r.IntN(64)
		if r.IntN(2) == 0 {
			v = uint64(int64(v) >> r.IntN(64))
		}
		rowHolds(t, r, v)
	}
}

// TestP8_5Most: a row may have eight instructions, and needs no more.
func TestP8_5Most(t *testing.T) {
	r := rand.New(rand.NewPCG(86, 8))
	most := 0
	for range 3000 {
		im, err := asm.Assemble("li a0, " + hexText(r.Uint64()))
		if err != nil {
			t.Fatal(err)
		}
		most = max(most, int(im.Segs[0].Size/4))
	}
	if most != 8 {
		t.Errorf("the longest row has %d instructions", most)
	}
}
