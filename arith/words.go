package arith

func add(a, b uint64) uint64 { return a + b }

func sub(a, b uint64) uint64 { return a - b }

func sll(a, b uint64) uint64 { return a << (b % 64) }

func srl(a, b uint64) uint64 { return a >> (b % 64) }

func sra(a, b uint64) uint64 { return uint64(int64(a) >> (b % 64)) }

func slt(a, b uint64) uint64 { return flag(int64(a) < int64(b)) }

func sltu(a, b uint64) uint64 { return flag(a < b) }

func xor(a, b uint64) uint64 { return a ^ b }

func or(a, b uint64) uint64 { return a | b }

func and(a, b uint64) uint64 { return a & b }

func mul(a, b uint64) uint64 { return a * b }

func mulh(a, b uint64) uint64 {
	hi, _ := WideSigned(a, b)
	return hi
}

func mulhsu(a, b uint64) uint64 {
	hi, _ := WideMixed(a, b)
	return hi
}

func mulhu(a, b uint64) uint64 {
	hi, _ := Wide(a, b)
	return hi
}

// div needs no case of its own for the least number by -1: the language's quotient wraps to the least number there, as the promise asks.
func div(a, b uint64) uint64 {
	if b == 0 {
		return ^uint64(0)
	}
	return uint64(int64(a) / int64(b))
}

func divu(a, b uint64) uint64 {
	if b == 0 {
		return ^uint64(0)
	}
	return a / b
}

func rem(a, b uint64) uint64 {
	if b == 0 {
		return a
	}
	return uint64(int64(a) % int64(b))
}

func remu(a, b uint64) uint64 {
	if b == 0 {
		return a
	}
	return a % b
}

// flag is a truth as a register holds it.
func flag(is bool) uint64 {
	if is {
		return 1
	}
	return 0
}
