package speak_test

import (
	"fmt"
	"strings"
	"testing"

	"anvil/api"
)

// writings are the ways to write a signed value.
func writings(n int64) []string {
	all := []string{fmt.Sprint(n), fmt.Sprintf("0x%x", uint64(n)), fmt.Sprintf("0x%X", uint64(n)), fmt.Sprint(uint64(n)), fmt.Sprintf("0x%024x", uint64(n))}
	if n < 0 {
		all = append(all, fmt.Sprintf("-0x%x", uint64(-n)), fmt.Sprintf("-000%d", uint64(-n)))
	}
	if n == 0 {
		all = append(all, "-0", "-0x0", "-00")
	}
	return all
}

// numbered is a text of a row with this number as it is written, and other operands that it has.
func numbered(d drawn, written string) string {
	var parts []string
	for _, w := range d.words {
		w, _, _ = strings.Cut(w, "!")
		parts = append(parts, strings.NewReplacer("rd", "a0", "rs1", "a1", "rs2", "a2", "imm", written, "hex", written, "five", written, "target", written, "csr", "mepc").Replace(w))
	}
	return d.name + " " + strings.Join(parts, ", ")
}

// TestP7_4Reach: of each name with a number: the least, the greatest, one step and one beyond each, between the steps, and far away, however it is written.
func TestP7_4Reach(t *testing.T) {
	r := random(20)
	rowsWithOne := 0
	for _, d := range drawings {
		if d.reach == nil {
			continue
		}
		rowsWithOne++
		var edges []int64
		for _, s := range d.reach {
			for _, n := range []int64{s.least, s.greatest, s.least + s.step, s.greatest - s.step, s.least + (s.greatest-s.least)/s.step/2*s.step} {
				edges = append(edges, n-s.step, n-1, n, n+1, n+s.step, n+s.step/2, n+1<<32, n-1<<32, n+1<<62, n^(-1<<63))
			}
			for range 20 {
				edges = append(edges, s.least+r.Int64N(s.greatest-s.least+1))
			}
		}
		edges = append(edges, 0, 1, -1, 2, -2, 1<<63-1, -1<<63, 1<<31, -1<<31, 1<<32, 0xfffff, 0x100000, 4096, -4096)
		read, refused := 0, 0
		for _, n := range edges {
			for _, pc := range []uint64{ram, 1, last} {
				value := n
				if strings.Contains(d.operands, "target") {
					value = int64(pc + uint64(n))
				}
				for _, written := range writings(value) {
					want := api.ErrReach
					if d.reaches(n) {
						want = api.OK
					}
					text := numbered(d, written)
					got := readsAsModel(t, text, pc)
					if got != want {
						t.Errorf("P7.4: the model says %d of %q at %#x, want %d", got, text, pc, want)
					}
					if got == api.OK {
						read++
					} else {
						refused++
					}
				}
			}
		}
		if read < 20 || refused < 20 {
			t.Errorf("of %s %d read, %d refused: the test has grown idle", d.name, read, refused)
		}
	}
	if want := 2 + 1 + 1 + 6 + 7 + 4 + 7 + 6 + 3 + 22; rowsWithOne != want {
		t.Errorf("%d rows with numbers, want %d", rowsWithOne, want)
	}
}

// TestP7_4Edges: the document's bounds in plain words: the edges that are read, and those that are not.
func TestP7_4Edges(t *testing.T) {
	for _, c := range []struct {
		text         string // with % for the number
		read, others []int64
	}{
		{"lui a0, %", []int64{0, 1, 0x80000, 0xfffff}, []int64{-1, 0x100000, -0x80000, 1 << 32}},
		{"auipc a0, %", []int64{0, 0xfffff}, []int64{-1, 0x100000}},
		{"c.lui a0, %", []int64{1, 31, 0xfffe0, 0xfffff}, []int64{0, 32, 0xfffdf, 0x100000, -1, -32, 0x1ffff, 63}},
		{"addi a0, a0, %", []int64{-2048, -1, 0, 2047}, []int64{-2049, 2048, 4095}},
		{"addiw a0, a0, %", []int64{-2048, 2047}, []int64{-2049, 2048}},
		{"jalr a0, %(a0)", []int64{-2048, -1, 1, 2047}, []int64{-2049, 2048}},
		{"ld a0, %(a0)", []int64{-2048, 1, 2047}, []int64{-2049, 2048}},
		{"sb a0, %(a0)", []int64{-2048, 1, 2047}, []int64{-2049, 2048}},
		{"slli a0, a0, %", []int64{0, 32, 63}, []int64{-1, 64}},
		{"srli a0, a0, %", []int64{0, 63}, []int64{-1, 64}},
		{"srai a0, a0, %", []int64{0, 63}, []int64{-1, 64, 1024}},
		{"slliw a0, a0, %", []int64{0, 31}, []int64{-1, 32, 63}},
		{"srliw a0, a0, %", []int64{0, 31}, []int64{-1, 32}},
		{"sraiw a0, a0, %", []int64{0, 31}, []int64{-1, 32}},
		{"csrrwi a0, mie, %", []int64{0, 31}, []int64{-1, 32, 1 << 32, -1 << 63}},
		{"csrrsi a0, mie, %", []int64{0, 31}, []int64{-1, 32}},
		{"csrrci a0, mie, %", []int64{0, 31}, []int64{-1, 32}},
		{"c.addi4spn a0, sp, %", []int64{4, 8, 1020}, []int64{0, 2, 1018, 1022, 1024, -4}},
		{"c.lw a0, %(a0)", []int64{0, 4, 124}, []int64{-4, 2, 126, 128}},
		{"c.sw a0, %(a0)", []int64{0, 4, 124}, []int64{-4, 2, 126, 128}},
		{"c.ld a0, %(a0)", []int64{0, 8, 248}, []int64{-8, 4, 252, 256}},
		{"c.sd a0, %(a0)", []int64{0, 8, 248}, []int64{-8, 4, 252, 256}},
		{"c.nop %", []int64{-32, -1, 0, 31}, []int64{-33, 32}},
		{"c.addi a0, %", []int64{-32, 0, 31}, []int64{-33, 32}},
		{"c.addiw a0, %", []int64{-32, 0, 31}, []int64{-33, 32}},
		{"c.li a0, %", []int64{-32, 0, 31}, []int64{-33, 32}},
		{"c.andi a0, %", []int64{-32, 0, 31}, []int64{-33, 32}},
		{"c.addi16sp sp, %", []int64{-512, -16, 16, 496}, []int64{0, -528, 512, 8, -8, 24, 500}},
		{"c.srli a0, %", []int64{0, 63}, []int64{-1, 64}},
		{"c.srai a0, %", []int64{0, 63}, []int64{-1, 64}},
		{"c.slli a0, %", []int64{0, 63}, []int64{-1, 64}},
		{"c.lwsp a0, %(sp)", []int64{0, 4, 252}, []int64{-4, 2, 254, 256}},
		{"c.swsp a0, %(sp)", []int64{0, 4, 252}, []int64{-4, 2, 254, 256}},
		{"c.ldsp a0, %(sp)", []int64{0, 8, 504}, []int64{-8, 4, 508, 512}},
		{"c.sdsp a0, %(sp)", []int64{0, 8, 504}, []int64{-8, 4, 508, 512}},
		{"jal a0, %", []int64{0, -1 << 20, 1<<20 - 2}, []int64{1, -1<<20 - 2, 1 << 20, 1<<20 - 1, 1 << 40}}, // the targets less the place, which is 0
		{"beq a0, a0, %", []int64{0, -1 << 12, 1<<12 - 2}, []int64{1, -1<<12 - 2, 1 << 12, 1<<12 - 1}},
		{"bgeu a0, a0, %", []int64{0, -1 << 12, 1<<12 - 2}, []int64{1, -1<<12 - 2, 1 << 12}},
		{"c.j %", []int64{0, -1 << 11, 1<<11 - 2}, []int64{1, -1<<11 - 2, 1 << 11, 1<<11 - 1}},
		{"c.beqz a0, %", []int64{0, -1 << 8, 1<<8 - 2}, []int64{1, -1<<8 - 2, 1 << 8, 1<<8 - 1}},
		{"c.bnez a0, %", []int64{0, -1 << 8, 1<<8 - 2}, []int64{1, -1<<8 - 2, 1 << 8, 1<<8 - 1}},
	} {
		for _, n := range c.read {
			text := strings.Replace(c.text, "%", fmt.Sprint(n), 1)
			if e := readsAsModel(t, text, 0); e != api.OK {
				t.Errorf("P7.4: %q is refused by %d", text, e)
			}
		}
		for _, n := range c.others {
			refuses(t, strings.Replace(c.text, "%", fmt.Sprint(n), 1), 0, api.ErrReach)
		}
	}
}

// TestP7_4Targets: targets are held against the place, modulo 2^64.
func TestP7_4Targets(t *testing.T) {
	says(t, "jal zero, 0xffffd", last, 0x7ffff06f)
	says(t, "jal zero, -1", last, 0x0000006f)
	says(t, "jal zero, 0xfffffffffff00000", 0, 0x8000006f)
	says(t, "jal zero, -1048576", 0, 0x8000006f)
	says(t, "beq zero, zero, 0xffffffffffffffff", 3, 0xfe000ee3)
	says(t, "c.j 0x7fd", last, 0xaffd)
	says(t, "c.j 3", 3, 0xa001)
	refuses(t, "c.j 4", 3, api.ErrReach)
	refuses(t, "c.j 2", 3, api.ErrReach)
	refuses(t, "jal zero, 0", ram, api.ErrReach)
	refuses(t, "jal zero, 0x80000000", 1<<63+ram, api.ErrReach)
	refuses(t, "jal zero, 0x80000000", 1<<32+ram, api.ErrReach)
}

// TestP7_4Numbers: the numbers of section 7.2 where a text has one.
func TestP7_4Numbers(t *testing.T) {
	for written, want := range map[string]uint32{
		"0": 0, "-0": 0, "-0x0": 0, "00": 0, "-1": 0xfff, "-0x1": 0xfff, "0x1": 1, "0x7fF": 0x7ff, "-0X1": 0xbad, "0X1": 0xbad, "18446744073709551615": 0xfff, "0xFFFFFFFFFFFFFFFF": 0xfff, "0xfffffffffffff800": 0x800, "-2048": 0x800, "-0x800": 0x800,
		"18446744073709551616": 0xbad, "0x10000000000000000": 0xbad, "-9223372036854775809": 0xbad, "-0x8000000000000001": 0xbad, "-18446744073709551615": 0xbad, "99999999999999999999": 0xbad, "184467440737095516150": 0xbad,
		"": 0xbad, "-": 0xbad, "0x": 0xbad, "-0x": 0xbad, "+1": 0xbad, "--1": 0xbad, "- 1": 0xbad, "1-": 0xbad, "0x-1": 0xbad, "1f": 0xbad, "0x1g": 0xbad, "0b1": 0xbad, "0o7": 0xbad, "1_000": 0xbad, "1.": 0xbad, "１": 0xbad, "٣": 0xbad, "0x１": 0xbad, "x1": 0xbad, "#1": 0xbad, "00x1": 0xbad, "-00x1": 0xbad, "0x0x1": 0xbad,
	} {
		text := "addi zero, zero, " + written
		if want == 0xbad {
			refuses(t, text, ram, api.ErrOperand)
			continue
		}
		says(t, text, ram, 0x13|want<<20)
	}
	refuses(t, "addi zero, zero, -9223372036854775808", ram, api.ErrReach) // a number, but a far one
	refuses(t, "addi zero, zero, -0x8000000000000000", ram, api.ErrReach)
	refuses(t, "addi zero, zero, 9223372036854775808", ram, api.ErrReach)
	refuses(t, "addi zero, zero, 0x7fffffffffffffff", ram, api.ErrReach)
	says(t, "jal zero, -9223372036854775808", 1<<63, 0x6f)
	says(t, "jal zero, 9223372036854775808", 1<<63, 0x6f)
}
