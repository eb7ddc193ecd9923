package number_test

import (
	"fmt"
	"math/big"
	"math/rand/v2"
	"strings"
	"testing"

	"anvil/number"
)

// is checks a number, and whether it is a count too.
func is(t *testing.T, text string, want uint64) {
	t.Helper()
	if v, ok := number.Number(text); v != want || !ok {
		t.Errorf("7.2: Number(%.60q) = %d, %v, want %d, true", text, v, ok, want)
	}
	if strings.HasPrefix(text, "-") {
		if v, ok := number.Count(text); v != 0 || ok {
			t.Errorf("7.2: Count(%.60q) = %d, %v, want 0, false", text, v, ok)
		}
		return
	}
	if v, ok := number.Count(text); v != want || !ok {
		t.Errorf("7.2: Count(%.60q) = %d, %v, want %d, true", text, v, ok, want)
	}
}

// isNone checks that a text is no number.
func isNone(t *testing.T, text string) {
	t.Helper()
	if v, ok := number.Number(text); v != 0 || ok {
		t.Errorf("7.2: Number(%.60q) = %d, %v, want 0, false", text, v, ok)
	}
	if v, ok := number.Count(text); v != 0 || ok {
		t.Errorf("7.2: Count(%.60q) = %d, %v, want 0, false", text, v, ok)
	}
}

// TestSection7_2Edges: the least and the greatest, and one beyond.
func TestSection7_2Edges(t *testing.T) {
	is(t, "0", 0)
	is(t, "-0", 0)
	is(t, "0x0", 0)
	is(t, "-0x0", 0)
	is(t, "1", 1)
	is(t, "-1", 1<<64-1)
	is(t, "-0x1", 1<<64-1)
	is(t, "18446744073709551615", 1<<64-1)
	isNone(t, "18446744073709551616")
	isNone(t, "18446744073709551619")
	isNone(t, "18446744073709551625")
	is(t, "0xffffffffffffffff", 1<<64-1)
	is(t, "0xFFFFFFFFFFFFFFFF", 1<<64-1)
	is(t, "0xFfFfFfFfFfFfFfFf", 1<<64-1)
	isNone(t, "0x10000000000000000")
	isNone(t, "0xfffffffffffffffff")
	is(t, "9223372036854775808", 1<<63)
	is(t, "-9223372036854775807", 1<<63+1)
	is(t, "-9223372036854775808", 1<<63)
	isNone(t, "-9223372036854775809")
	is(t, "-0x8000000000000000", 1<<63)
	isNone(t, "-0x8000000000000001")
	isNone(t, "-18446744073709551615")
	isNone(t, "-18446744073709551616")
	isNone(t, "-0xffffffffffffffff")
	is(t, strings.Repeat("0", 1000)+"7", 7)
	is(t, "0x"+strings.Repeat("0", 1000)+"f", 15)
	is(t, "-"+strings.Repeat("0", 1000)+"2", 1<<64-2)
	isNone(t, strings.Repeat("1", 1000))
	isNone(t, "0x"+strings.Repeat("1", 1000))
}

// TestSection7_2Digits: every digit, small and capital, in front of others and behind.
func TestSection7_2Digits(t *testing.T) {
	for _, digits := range []string{"0123456789abcdef", "0123456789ABCDEF"} {
		for n, r := range digits {
			is(t, "0x"+string(r), uint64(n))
			is(t, "0x"+string(r)+"0", 16*uint64(n))
			is(t, "0x1"+string(r), 16+uint64(n))
			if n < 10 {
				is(t, string(r), uint64(n))
				is(t, "-"+string(r), -uint64(n))
				is(t, "1"+string(r), 10+uint64(n))
			}
		}
	}
}

// TestSection7_2None: what is nearly a number.
func TestSection7_2None(t *testing.T) {
	for _, text := range []string{"", "-", "--1", "+1", "- 1", " 1", "1 ", "0x", "-0x", "0X1", "0xg", "0x 1", "0x-1", "x1", "1x", "1f", "f", "00x1", "0x0x1", "0b1", "0o1", "1_0", "1.0", "1e3", "1,0", "é", "1é", "٣", "0x٣", "１", "\xff", "1\xff", "\x001", "/", ":", "@", "G", "`", "g", "0x/", "0x:", "0x@", "0xG", "0x`", "0xg"} {
		isNone(t, text)
	}
	for b := range 256 {
		one := string([]byte{byte(b)})
		if b < '0' || b > '9' {
			isNone(t, "1"+one)
			isNone(t, one)
		}
	}
}

// TestSection7_2Any: numbers of any length against numbers that have no bound.
func TestSection7_2Any(t *testing.T) {
	r := rand.New(rand.NewPCG(1, 72))
	bound, below := new(big.Int).Lsh(big.NewInt(1), 64), new(big.Int).Lsh(big.NewInt(1), 63)
	good, bad := 0, 0
	for range 40_000 {
		v := new(big.Int).SetUint64(r.Uint64() >> (r.IntN(64) * r.IntN(2)))
		v.Lsh(v, uint(r.IntN(4)))
		text := v.String()
		if r.IntN(2) == 0 {
			text = "0x" + strings.Repeat("0", r.IntN(3)) + v.Text(16)
		}
		fits := v.Cmp(bound) < 0
		if r.IntN(3) == 0 {
			text = "-" + text
			fits = v.Cmp(below) <= 0
			v.Mod(v.Neg(v), bound)
		}
		if fits {
			good++
			is(t, text, v.Uint64())
		} else {
			bad++
			isNone(t, text)
		}
	}
	if good < 1000 || bad < 1000 {
		t.Errorf("%d numbers, %d none: the test has grown idle", good, bad)
	}
}

// TestSection7_2Hex: how values are printed.
func TestSection7_2Hex(t *testing.T) {
	for _, v := range []uint64{0, 1, 9, 10, 15, 16, 255, 256, 0x80000000, 1 << 63, 1<<64 - 1} {
		if got, want := number.Hex(v), fmt.Sprintf("0x%x", v); got != want {
			t.Errorf("7.2: Hex(%d) = %q, want %q", v, got, want)
		}
		for _, digits := range []int{2, 4, 8, 16} {
			if got, want := number.Padded(v, digits), fmt.Sprintf("0x%0*x", digits, v); got != want {
				t.Errorf("7.2: Padded(%d, %d) = %q, want %q", v, digits, got, want)
			}
		}
		is(t, number.Hex(v), v)
		if got := number.Padded(v, -1); got != number.Hex(v) {
			t.Errorf("7.2: Padded(%d, -1) = %q", v, got)
		}
	}
}
