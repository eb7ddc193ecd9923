package arith_test

import (
	"math/big"
	"testing"

	"anvil/api"
	"anvil/arith"
)

// whole: the number of 128 bits with these halves.
func whole(hi, lo uint64) *big.Int {
	return new(big.Int).Add(new(big.Int).Lsh(plain(hi), 64), plain(lo))
}

func product(a, b *big.Int) *big.Int { return modulo(new(big.Int).Mul(a, b), 128) }

func TestA5Products(t *testing.T) {
	eachPair(func(a, b uint64) {
		hi, lo := arith.Wide(a, b)
		if want := product(plain(a), plain(b)); whole(hi, lo).Cmp(want) != 0 {
			t.Errorf("A5: Wide(%#x, %#x) = %#x, %#x, want %#x", a, b, hi, lo, want)
		}
		hi, lo = arith.WideSigned(a, b)
		if want := product(signed(a), signed(b)); whole(hi, lo).Cmp(want) != 0 {
			t.Errorf("A5: WideSigned(%#x, %#x) = %#x, %#x, want %#x", a, b, hi, lo, want)
		}
		hi, lo = arith.WideMixed(a, b)
		if want := product(signed(a), plain(b)); whole(hi, lo).Cmp(want) != 0 {
			t.Errorf("A5: WideMixed(%#x, %#x) = %#x, %#x, want %#x", a, b, hi, lo, want)
		}
	})
}

func TestA5LowerHalvesAgree(t *testing.T) {
	eachPair(func(a, b uint64) {
		_, lo := arith.Wide(a, b)
		_, loSigned := arith.WideSigned(a, b)
		_, loMixed := arith.WideMixed(a, b)
		if lo != loSigned || lo != loMixed {
			t.Errorf("A5: lo of %#x, %#x: %#x, %#x, %#x", a, b, lo, loSigned, loMixed)
		}
	})
}

func TestA9ProductsAreWhole(t *testing.T) {
	eachPair(func(a, b uint64) {
		lo := compute(t, api.OpMul, a, b)
		for _, c := range []struct {
			op   int
			want *big.Int
		}{
			{api.OpMulhu, product(plain(a), plain(b))},
			{api.OpMulh, product(signed(a), signed(b))},
			{api.OpMulhsu, product(signed(a), plain(b))},
		} {
			hi := compute(t, c.op, a, b)
			if whole(hi, lo).Cmp(c.want) != 0 {
				t.Errorf("A9: op %d of %#x, %#x: %#x, %#x, want %#x", c.op, a, b, hi, lo, c.want)
			}
		}
	})
}

func TestExamplesOfProducts(t *testing.T) {
	for _, c := range []struct {
		name         string
		wide         func(a, b uint64) (uint64, uint64)
		a, b, hi, lo uint64
	}{
		{"Wide", arith.Wide, 1 << 63, 2, 1, 0},
		{"WideSigned", arith.WideSigned, 1 << 63, 2, ones, 0},
		{"WideMixed", arith.WideMixed, ones, ones, ones, 1},
		{"Wide", arith.Wide, ones, ones, ones - 1, 1},
		{"WideSigned", arith.WideSigned, ones, ones, 0, 1},
	} {
		if hi, lo := c.wide(c.a, c.b); hi != c.hi || lo != c.lo {
			t.Errorf("1.8: %s(%#x, %#x) = %#x, %#x, want %#x, %#x", c.name, c.a, c.b, hi, lo, c.hi, c.lo)
		}
	}
}
