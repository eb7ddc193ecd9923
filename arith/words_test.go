package arith_test

import "math/big"

// The tests hold the operations against whole numbers of any length, so that no wrap-round of the language stands on both sides.

const ones = 1<<64 - 1

// edges: words at which an operation's rule changes, and some in between.
func edges() []uint64 {
	words := []uint64{
		0, 1, 2, 3, 5, 7, 10, 30, 31, 32, 33, 62, 63, 64, 65, 127, 128,
		0x7fffffff, 0x80000000, 0x80000001, 0xfffffffe, 0xffffffff,
		1 << 32, 1<<32 + 1, 1<<32 + 31, 0x17fffffff, 0x180000000, 0x1ffffffff,
		0x0123456789abcdef, 0xfedcba9876543210, 0xdeadbeef5a5a5a5a,
		0x5555555555555555, 0xaaaaaaaaaaaaaaaa,
		1<<62 - 1, 1 << 62, 1<<63 - 1, 1 << 63, 1<<63 + 1,
		0xffffffff00000000, 0xffffffff7fffffff, 0xffffffff80000000, 0xffffffff80000001,
	}
	for _, n := range []uint64{1, 2, 3, 7, 10, 31, 32, 33, 63, 64, 65} {
		words = append(words, -n)
	}
	return append(words, scattered(20)...)
}

// scattered: n words without a plan, the same each time.
func scattered(n int) []uint64 {
	var words []uint64
	v := uint64(0x9e3779b97f4a7c15)
	for range n {
		v ^= v << 13
		v ^= v >> 7
		v ^= v << 17
		words = append(words, v)
	}
	return words
}

func eachPair(do func(a, b uint64)) {
	words := edges()
	for _, a := range words {
		for _, b := range words {
			do(a, b)
		}
	}
}

func plain(v uint64) *big.Int { return new(big.Int).SetUint64(v) }

func power(n int) *big.Int { return new(big.Int).Lsh(big.NewInt(1), uint(n)) }

// modulo: the lower n bits of a number, which may be below 0.
func modulo(x *big.Int, n int) *big.Int { return new(big.Int).Mod(x, power(n)) }

// signedOf: what the lower n bits of v mean as a signed number.
func signedOf(v uint64, n int) *big.Int {
	x := modulo(plain(v), n)
	if x.Bit(n-1) == 1 {
		x.Sub(x, power(n))
	}
	return x
}

func signed(v uint64) *big.Int { return signedOf(v, 64) }

// word: a number modulo 2^64.
func word(x *big.Int) uint64 { return modulo(x, 64).Uint64() }

// widened: a number's lower half widened.
func widened(x *big.Int) uint64 { return word(signedOf(word(x), 32)) }
