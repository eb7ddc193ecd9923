package arith_test

import (
	"math/big"
	"testing"

	"anvil/api"
	"anvil/arith"
)

// lesserOf, greaterOf: one of two numbers.
func lesserOf(a, b *big.Int) *big.Int {
	if a.Cmp(b) < 0 {
		return a
	}
	return b
}

func greaterOf(a, b *big.Int) *big.Int {
	if a.Cmp(b) > 0 {
		return a
	}
	return b
}

func longAmos() map[int]rule {
	return map[int]rule{
		api.OpAmoswapD: func(old, b uint64) uint64 { return b },
		api.OpAmoaddD:  func(old, b uint64) uint64 { return word(new(big.Int).Add(plain(old), plain(b))) },
		api.OpAmoxorD:  func(old, b uint64) uint64 { return word(new(big.Int).Xor(plain(old), plain(b))) },
		api.OpAmoandD:  func(old, b uint64) uint64 { return word(new(big.Int).And(plain(old), plain(b))) },
		api.OpAmoorD:   func(old, b uint64) uint64 { return word(new(big.Int).Or(plain(old), plain(b))) },
		api.OpAmominD:  func(old, b uint64) uint64 { return word(lesserOf(signed(old), signed(b))) },
		api.OpAmomaxD:  func(old, b uint64) uint64 { return word(greaterOf(signed(old), signed(b))) },
		api.OpAmominuD: func(old, b uint64) uint64 { return word(lesserOf(plain(old), plain(b))) },
		api.OpAmomaxuD: func(old, b uint64) uint64 { return word(greaterOf(plain(old), plain(b))) },
	}
}

func shortAmos() map[int]rule {
	return map[int]rule{
		api.OpAmoswapW: func(old, b uint64) uint64 { return widened(lower(b)) },
		api.OpAmoaddW:  func(old, b uint64) uint64 { return widened(new(big.Int).Add(lower(old), lower(b))) },
		api.OpAmoxorW:  func(old, b uint64) uint64 { return widened(new(big.Int).Xor(lower(old), lower(b))) },
		api.OpAmoandW:  func(old, b uint64) uint64 { return widened(new(big.Int).And(lower(old), lower(b))) },
		api.OpAmoorW:   func(old, b uint64) uint64 { return widened(new(big.Int).Or(lower(old), lower(b))) },
		api.OpAmominW:  func(old, b uint64) uint64 { return widened(lesserOf(lowerSigned(old), lowerSigned(b))) },
		api.OpAmomaxW:  func(old, b uint64) uint64 { return widened(greaterOf(lowerSigned(old), lowerSigned(b))) },
		api.OpAmominuW: func(old, b uint64) uint64 { return widened(lesserOf(lower(old), lower(b))) },
		api.OpAmomaxuW: func(old, b uint64) uint64 { return widened(greaterOf(lower(old), lower(b))) },
	}
}

func checkAmos(t *testing.T, rules map[int]rule) {
	t.Helper()
	for op, want := range rules {
		eachPair(func(old, b uint64) {
			got, ok := arith.Amo(op, old, b)
			if !ok || got != want(old, b) {
				t.Errorf("A8: Amo(%d, %#x, %#x) = %#x, %v, want %#x, true", op, old, b, got, ok, want(old, b))
			}
		})
	}
}

func TestA8Amo(t *testing.T) {
	checkAmos(t, longAmos())
	checkAmos(t, shortAmos())
}

func TestA8NoAmo(t *testing.T) {
	long, short := longAmos(), shortAmos()
	for _, op := range numbers() {
		if long[op] != nil || short[op] != nil {
			continue
		}
		if got, ok := arith.Amo(op, 5, 3); got != 0 || ok {
			t.Errorf("A8: Amo(%d, 5, 3) of no such operation = %#x, %v", op, got, ok)
		}
	}
}

func TestA11AmosOfHalvesAlone(t *testing.T) {
	for op := range shortAmos() {
		eachPair(func(old, b uint64) {
			got, _ := arith.Amo(op, old, b)
			if got != widened(plain(got)) {
				t.Errorf("A11: Amo(%d, %#x, %#x) = %#x is no half widened", op, old, b, got)
			}
			for _, u := range []uint64{1 << 32, 1 << 63, 0xffffffff00000000} {
				first, _ := arith.Amo(op, old^u, b)
				second, _ := arith.Amo(op, old, b^u)
				if first != got || second != got {
					t.Errorf("A11: Amo(%d, %#x, %#x) hangs on an upper half", op, old, b)
				}
			}
		})
	}
}

func TestExamplesOfAmo(t *testing.T) {
	for _, c := range []struct {
		op           int
		old, b, want uint64
	}{
		{api.OpAmominW, 0xffffffff, 1, ones},
		{api.OpAmominuW, 0xffffffff, 1, 1},
		{api.OpAmoaddW, 0x7fffffff, 1, 0xffffffff80000000},
	} {
		if got, ok := arith.Amo(c.op, c.old, c.b); !ok || got != c.want {
			t.Errorf("1.8: Amo(%d, %#x, %#x) = %#x, %v, want %#x", c.op, c.old, c.b, got, ok, c.want)
		}
	}
	if v, ok := arith.Compute(api.OpAmoaddW, 0x7fffffff, 1); v != 0 || ok {
		t.Errorf("1.8: Compute(OpAmoaddW, ..) = %#x, %v", v, ok)
	}
}
