package speak_test

import (
	"encoding/binary"
	"fmt"
	"math/rand/v2"
	"slices"
	"strings"
	"testing"

	"anvil/speak"
)

// modelList is P7.5.
func modelList(b []byte, pc uint64) []string {
	switch {
	case len(b) == 0:
		return nil
	case len(b) == 1:
		return []string{fmt.Sprintf(".byte 0x%02x", b[0])}
	}
	parcel := binary.LittleEndian.Uint16(b)
	switch {
	case parcel%4 != 3:
		return append([]string{modelPrint(uint32(parcel), pc)}, modelList(b[2:], pc+2)...)
	case len(b) >= 4:
		return append([]string{modelPrint(binary.LittleEndian.Uint32(b), pc)}, modelList(b[4:], pc+4)...)
	}
	return append([]string{fmt.Sprintf(".half 0x%04x", parcel)}, modelList(b[2:], pc+2)...)
}

// lists checks the lines of bytes.
func lists(t *testing.T, b []byte, pc uint64, want []string) {
	t.Helper()
	if got := speak.List(b, pc); !slices.Equal(got, want) {
		t.Errorf("P7.5: List(%x, %#x) = %q, want %q", b, pc, got, want)
	}
}

// anyBytes are the bytes of some instructions, whole ones.
func anyBytes(r *rand.Rand, count int) []byte {
	var b []byte
	for range count {
		d := drawings[r.IntN(len(drawings))]
		raw := anyOf(r, d)
		b = append(b, byte(raw), byte(raw>>8))
		if d.length() == 4 {
			b = append(b, byte(raw>>16), byte(raw>>24))
		}
	}
	return b
}

// TestP7_5Short: lists of 0 to 7 bytes in plain words.
func TestP7_5Short(t *testing.T) {
	for _, c := range []struct {
		b    []byte
		want []string
	}{
		{nil, nil},
		{[]byte{}, nil},
		{[]byte{0}, []string{".byte 0x00"}},
		{[]byte{3}, []string{".byte 0x03"}},
		{[]byte{0xff}, []string{".byte 0xff"}},
		{[]byte{0x01, 0x00}, []string{"c.nop"}},
		{[]byte{0x00, 0x00}, []string{".half 0x0000"}},
		{[]byte{0x03, 0x00}, []string{".half 0x0003"}},
		{[]byte{0xff, 0xff}, []string{".half 0xffff"}},
		{[]byte{0x01, 0x00, 0x01}, []string{"c.nop", ".byte 0x01"}},
		{[]byte{0x13, 0x00, 0x00}, []string{".half 0x0013", ".byte 0x00"}},
		{[]byte{0x13, 0x00, 0x00, 0x00}, []string{"addi zero, zero, 0"}},
		{[]byte{0xff, 0xff, 0xff, 0xff}, []string{".word 0xffffffff"}},
		{[]byte{0x01, 0x00, 0x01, 0x00}, []string{"c.nop", "c.nop"}},
		{[]byte{0x01, 0x00, 0x13, 0x00}, []string{"c.nop", ".half 0x0013"}},
		{[]byte{0x01, 0x00, 0x13, 0x00, 0x05}, []string{"c.nop", ".half 0x0013", ".byte 0x05"}},
		{[]byte{0x13, 0x00, 0x00, 0x00, 0x73}, []string{"addi zero, zero, 0", ".byte 0x73"}},
		{[]byte{0x13, 0x00, 0x00, 0x00, 0x01, 0x00}, []string{"addi zero, zero, 0", "c.nop"}},
		{[]byte{0x01, 0x00, 0x13, 0x00, 0x00, 0x00}, []string{"c.nop", "addi zero, zero, 0"}},
		{[]byte{0x13, 0x00, 0x00, 0x00, 0x73, 0x00}, []string{"addi zero, zero, 0", ".half 0x0073"}},
		{[]byte{0x13, 0x00, 0x00, 0x00, 0x73, 0x00, 0x00}, []string{"addi zero, zero, 0", ".half 0x0073", ".byte 0x00"}},
		{[]byte{0x05, 0x05, 0x73, 0x00, 0x00, 0x00, 0x03}, []string{"c.addi a0, 1", "ecall", ".byte 0x03"}},
		{[]byte{0x01, 0x00, 0x05, 0x05, 0x82, 0x80, 0x93}, []string{"c.nop", "c.addi a0, 1", "c.jr ra", ".byte 0x93"}},
	} {
		lists(t, c.b, ram, c.want)
	}
}

// TestP7_5Places: each line is printed at its own address, modulo 2^64.
func TestP7_5Places(t *testing.T) {
	jumps := []byte{0x01, 0xa0, 0x6f, 0x00, 0x00, 0x00, 0x01, 0xa0, 0x63, 0x00, 0x00, 0x00}
	lists(t, jumps, ram, []string{"c.j 0x80000000", "jal zero, 0x80000002", "c.j 0x80000006", "beq zero, zero, 0x80000008"})
	lists(t, jumps, last-3, []string{"c.j 0xfffffffffffffffc", "jal zero, 0xfffffffffffffffe", "c.j 0x2", "beq zero, zero, 0x4"})
	lists(t, jumps, last, []string{"c.j 0xffffffffffffffff", "jal zero, 0x1", "c.j 0x5", "beq zero, zero, 0x7"})
	lists(t, jumps, 1, []string{"c.j 0x1", "jal zero, 0x3", "c.j 0x7", "beq zero, zero, 0x9"})
}

// TestP7_5Any: bytes of any kind, and of instructions, cut off anywhere.
func TestP7_5Any(t *testing.T) {
	r := random(50)
	ends := map[string]int{}
	for range 4000 {
		b := anyBytes(r, r.IntN(6))
		for range r.IntN(4) {
			b = append(b, byte(r.Uint32()))
		}
		b = b[:len(b)-r.IntN(min(4, len(b)+1))]
		want := modelList(b, ram)
		if len(want) > 0 {
			name, _, _ := strings.Cut(want[len(want)-1], " ")
			ends[name]++
		}
		lists(t, b, ram, want)
		pc := anyPlace(r)
		lists(t, b, pc, modelList(b, pc))
	}
	if ends[".byte"] < 500 || ends[".half"] < 200 {
		t.Errorf("%v: the test has grown idle", ends)
	}
}

// TestP7_5Many: more bytes than a RAM has.
func TestP7_5Many(t *testing.T) {
	lines := speak.List(make([]byte, 1<<17+1), ram)
	if len(lines) != 1<<16+1 || lines[0] != ".half 0x0000" || lines[1<<16] != ".byte 0x00" {
		t.Errorf("P7.5: %d lines", len(lines))
	}
}

// TestP7_8Pieces: two pieces, the first of which ends where an instruction ends.
func TestP7_8Pieces(t *testing.T) {
	r := random(51)
	for range 3000 {
		pc := anyPlace(r)
		first, second := anyBytes(r, r.IntN(5)), anyBytes(r, r.IntN(5))
		second = second[:len(second)-r.IntN(min(4, len(second)+1))]
		whole := slices.Concat(first, second)
		want := append(speak.List(first, pc), speak.List(second, pc+uint64(len(first)))...)
		if got := speak.List(whole, pc); !slices.Equal(got, want) {
			t.Errorf("P7.8: List(%x, %#x) = %q, of two pieces %q", whole, pc, got, want)
		}
	}
}
