package arith_test

import (
	"math"
	"math/big"
	"testing"

	"anvil/api"
	"anvil/arith"
)

// compute: the result of an operation that there is.
func compute(t *testing.T, op int, a, b uint64) uint64 {
	t.Helper()
	v, ok := arith.Compute(op, a, b)
	if !ok {
		t.Fatalf("A6: Compute(%d, %#x, %#x) answers that there is no such operation", op, a, b)
	}
	return v
}

type rule func(a, b uint64) uint64

func truth(is bool) uint64 {
	if is {
		return 1
	}
	return 0
}

func up(x *big.Int, n uint64) *big.Int { return new(big.Int).Lsh(x, uint(n)) }

// down: moved down, the fraction dropped towards the lesser number, which is what copies of the sign bit come to.
func down(x *big.Int, n uint64) *big.Int {
	return new(big.Int).Div(x, power(int(n)))
}

func lower(v uint64) *big.Int { return modulo(plain(v), 32) }

func lowerSigned(v uint64) *big.Int { return signedOf(v, 32) }

// quotient, left: a division with the fraction dropped towards 0, and what it leaves; with the divisor 0 as the chapter says.
func quotient(a, b *big.Int) *big.Int {
	if b.Sign() == 0 {
		return big.NewInt(-1)
	}
	return new(big.Int).Quo(a, b)
}

func left(a, b *big.Int) *big.Int {
	if b.Sign() == 0 {
		return a
	}
	return new(big.Int).Sub(a, new(big.Int).Mul(b, quotient(a, b)))
}

func wordRules() map[int]rule {
	return map[int]rule{
		api.OpAdd:    func(a, b uint64) uint64 { return word(new(big.Int).Add(plain(a), plain(b))) },
		api.OpSub:    func(a, b uint64) uint64 { return word(new(big.Int).Sub(plain(a), plain(b))) },
		api.OpSll:    func(a, b uint64) uint64 { return word(up(plain(a), b%64)) },
		api.OpSrl:    func(a, b uint64) uint64 { return word(down(plain(a), b%64)) },
		api.OpSra:    func(a, b uint64) uint64 { return word(down(signed(a), b%64)) },
		api.OpSlt:    func(a, b uint64) uint64 { return truth(signed(a).Cmp(signed(b)) < 0) },
		api.OpSltu:   func(a, b uint64) uint64 { return truth(plain(a).Cmp(plain(b)) < 0) },
		api.OpXor:    func(a, b uint64) uint64 { return word(new(big.Int).Xor(plain(a), plain(b))) },
		api.OpOr:     func(a, b uint64) uint64 { return word(new(big.Int).Or(plain(a), plain(b))) },
		api.OpAnd:    func(a, b uint64) uint64 { return word(new(big.Int).And(plain(a), plain(b))) },
		api.OpMul:    func(a, b uint64) uint64 { return word(product(plain(a), plain(b))) },
		api.OpMulh:   func(a, b uint64) uint64 { return word(down(product(signed(a), signed(b)), 64)) },
		api.OpMulhsu: func(a, b uint64) uint64 { return word(down(product(signed(a), plain(b)), 64)) },
		api.OpMulhu:  func(a, b uint64) uint64 { return word(down(product(plain(a), plain(b)), 64)) },
		api.OpDiv:    func(a, b uint64) uint64 { return word(quotient(signed(a), signed(b))) },
		api.OpDivu:   func(a, b uint64) uint64 { return word(quotient(plain(a), plain(b))) },
		api.OpRem:    func(a, b uint64) uint64 { return word(left(signed(a), signed(b))) },
		api.OpRemu:   func(a, b uint64) uint64 { return word(left(plain(a), plain(b))) },
	}
}

func halfRules() map[int]rule {
	return map[int]rule{
		api.OpAddw:  func(a, b uint64) uint64 { return widened(new(big.Int).Add(lower(a), lower(b))) },
		api.OpSubw:  func(a, b uint64) uint64 { return widened(new(big.Int).Sub(lower(a), lower(b))) },
		api.OpSllw:  func(a, b uint64) uint64 { return widened(up(lower(a), b%32)) },
		api.OpSrlw:  func(a, b uint64) uint64 { return widened(down(lower(a), b%32)) },
		api.OpSraw:  func(a, b uint64) uint64 { return widened(down(lowerSigned(a), b%32)) },
		api.OpMulw:  func(a, b uint64) uint64 { return widened(new(big.Int).Mul(lower(a), lower(b))) },
		api.OpDivw:  func(a, b uint64) uint64 { return widened(quotient(lowerSigned(a), lowerSigned(b))) },
		api.OpDivuw: func(a, b uint64) uint64 { return widened(quotient(lower(a), lower(b))) },
		api.OpRemw:  func(a, b uint64) uint64 { return widened(left(lowerSigned(a), lowerSigned(b))) },
		api.OpRemuw: func(a, b uint64) uint64 { return widened(left(lower(a), lower(b))) },
	}
}

// immediates: the immediate forms, and what each is.
func immediates() map[int]int {
	return map[int]int{
		api.OpAddi: api.OpAdd, api.OpSlti: api.OpSlt, api.OpSltiu: api.OpSltu,
		api.OpXori: api.OpXor, api.OpOri: api.OpOr, api.OpAndi: api.OpAnd,
		api.OpSlli: api.OpSll, api.OpSrli: api.OpSrl, api.OpSrai: api.OpSra,
		api.OpAddiw: api.OpAddw, api.OpSlliw: api.OpSllw, api.OpSrliw: api.OpSrlw, api.OpSraiw: api.OpSraw,
	}
}

// allRules: the rule of every operation that Compute must know.
func allRules() map[int]rule {
	rules := wordRules()
	for op, r := range halfRules() {
		rules[op] = r
	}
	for op, as := range immediates() {
		rules[op] = rules[as]
	}
	return rules
}

func TestA6Compute(t *testing.T) {
	for op, want := range allRules() {
		eachPair(func(a, b uint64) {
			if got := compute(t, op, a, b); got != want(a, b) {
				t.Errorf("A6: Compute(%d, %#x, %#x) = %#x, want %#x", op, a, b, got, want(a, b))
			}
		})
	}
}

func TestA6ShiftsByEveryCount(t *testing.T) {
	rules := allRules()
	for _, op := range []int{api.OpSll, api.OpSrl, api.OpSra, api.OpSllw, api.OpSrlw, api.OpSraw, api.OpSlli, api.OpSrli, api.OpSrai, api.OpSlliw, api.OpSrliw, api.OpSraiw} {
		for _, a := range edges() {
			for b := range uint64(130) {
				if got, want := compute(t, op, a, b), rules[op](a, b); got != want {
					t.Fatalf("A6: Compute(%d, %#x, %d) = %#x, want %#x", op, a, b, got, want)
				}
			}
		}
	}
}

// numbers: every number from below api's to above them, and the farthest.
func numbers() []int {
	ops := []int{math.MinInt, math.MinInt + 1, -1 << 32, 1 << 32, 1<<32 + api.OpAdd, math.MaxInt - 1, math.MaxInt}
	for i := range 3 * api.Ops {
		ops = append(ops, i-api.Ops)
	}
	return ops
}

func TestA6NoOperation(t *testing.T) {
	rules := allRules()
	if len(rules) != 41 {
		t.Fatalf("the test knows %d operations, not 41", len(rules))
	}
	for _, op := range numbers() {
		v, ok := arith.Compute(op, 5, 3)
		if _, is := rules[op]; is != ok {
			t.Errorf("A6: Compute(%d, 5, 3) answers %v, want %v", op, ok, is)
		} else if !is && v != 0 {
			t.Errorf("A6: Compute(%d, 5, 3) of no operation = %#x", op, v)
		}
	}
}

func TestA6Corners(t *testing.T) {
	const least, leastHalf = 1 << 63, 0xffffffff80000000
	for _, c := range []struct {
		op         int
		a, b, want uint64
	}{
		{api.OpDiv, least, ones, least}, {api.OpRem, least, ones, 0},
		{api.OpDiv, least, 0, ones}, {api.OpRem, least, 0, least},
		{api.OpDiv, 0, 0, ones}, {api.OpRem, 0, 0, 0},
		{api.OpDivu, least, 0, ones}, {api.OpRemu, least, 0, least},
		{api.OpDivw, leastHalf, ones, leastHalf}, {api.OpRemw, leastHalf, ones, 0},
		{api.OpDivw, 0x80000000, 1 << 32, ones}, {api.OpRemw, 0x80000000, 1 << 32, leastHalf},
		{api.OpDivuw, 0x80000000, 1 << 32, ones}, {api.OpRemuw, 0x80000000, 1 << 32, leastHalf},
		{api.OpDivuw, 0x180000000, 1, leastHalf}, {api.OpSrlw, 0x180000000, 0, leastHalf},
		{api.OpSllw, 1, 31, leastHalf}, {api.OpSllw, 1, 32, 1}, {api.OpSllw, 1, 64, 1},
		{api.OpSll, 1, 32, 1 << 32}, {api.OpSll, 1, 64, 1}, {api.OpSra, least, 64 + 63, ones},
	} {
		if got := compute(t, c.op, c.a, c.b); got != c.want {
			t.Errorf("A6: Compute(%d, %#x, %#x) = %#x, want %#x", c.op, c.a, c.b, got, c.want)
		}
	}
}

func TestA10SignedDivision(t *testing.T) {
	eachPair(func(a, b uint64) {
		q, r := compute(t, api.OpDiv, a, b), compute(t, api.OpRem, a, b)
		if sum := new(big.Int).Add(product(plain(b), plain(q)), plain(r)); word(sum) != a {
			t.Errorf("A10: %#x times %#x and %#x is not %#x", b, q, r, a)
		}
		if b == 0 {
			return
		}
		x := signed(r)
		if x.CmpAbs(signed(b)) >= 0 {
			t.Errorf("A10: OpRem of %#x by %#x = %#x is not less than the divisor", a, b, r)
		}
		if x.Sign() != 0 && x.Sign() != signed(a).Sign() {
			t.Errorf("A10: OpRem of %#x by %#x = %#x has the wrong sign", a, b, r)
		}
	})
}

func TestA10PlainDivision(t *testing.T) {
	eachPair(func(a, b uint64) {
		q, r := compute(t, api.OpDivu, a, b), compute(t, api.OpRemu, a, b)
		if sum := new(big.Int).Add(product(plain(b), plain(q)), plain(r)); word(sum) != a {
			t.Errorf("A10: %#x times %#x and %#x is not %#x", b, q, r, a)
		}
		if b != 0 && r >= b {
			t.Errorf("A10: OpRemu of %#x by %#x = %#x is not less than the divisor", a, b, r)
		}
	})
}

func TestA11HalvesAlone(t *testing.T) {
	ops := []int{api.OpAddiw, api.OpSlliw, api.OpSrliw, api.OpSraiw}
	for op := range halfRules() {
		ops = append(ops, op)
	}
	others := []uint64{1 << 32, 1 << 63, 0xffffffff00000000, 0x12345678 << 32}
	for _, op := range ops {
		eachPair(func(a, b uint64) {
			got := compute(t, op, a, b)
			if got != widened(plain(got)) {
				t.Errorf("A11: Compute(%d, %#x, %#x) = %#x is no half widened", op, a, b, got)
			}
			for _, u := range others {
				if compute(t, op, a^u, b) != got || compute(t, op, a, b^u) != got {
					t.Errorf("A11: Compute(%d, %#x, %#x) hangs on an upper half", op, a, b)
				}
			}
		})
	}
}

func TestExamplesOfCompute(t *testing.T) {
	neg := func(v uint64) uint64 { return -v }
	for _, c := range []struct {
		op         int
		a, b, want uint64
	}{
		{api.OpSll, 1, 64, 1}, {api.OpSllw, 0x80000000, 32, 0xffffffff80000000},
		{api.OpSrlw, ones, 0, ones}, {api.OpSrlw, ones, 1, 0x7fffffff},
		{api.OpDiv, 1 << 63, ones, 1 << 63}, {api.OpRem, 1 << 63, ones, 0},
		{api.OpDiv, 7, neg(2), neg(3)}, {api.OpRem, 7, neg(2), 1},
		{api.OpDiv, neg(7), 2, neg(3)}, {api.OpRem, neg(7), 2, neg(1)},
		{api.OpDivu, 7, 0, ones}, {api.OpRemu, 7, 0, 7},
		{api.OpDivw, 0x80000000, 0x1ffffffff, 0xffffffff80000000}, {api.OpRemw, 0x80000000, 0x1ffffffff, 0},
		{api.OpDivuw, 0x80000000, 1, 0xffffffff80000000}, {api.OpRemuw, 0x1ffffffff, 0, ones},
	} {
		if got := compute(t, c.op, c.a, c.b); got != c.want {
			t.Errorf("1.8: Compute(%d, %#x, %#x) = %#x, want %#x", c.op, c.a, c.b, got, c.want)
		}
	}
}
