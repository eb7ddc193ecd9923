package speak

import "strconv"

// The registers that forms name.
const (
	zero = 0
	ra   = 1
	sp   = 2
	s0   = 8
	a5   = 15
)

// registerCount is how many registers there are.
const registerCount = 32

// Reg is a register's name.
func Reg(n int) string {
	if n < 0 || n >= registerCount {
		return ""
	}
	return registerNames()[n]
}

// RegOf is a name's register.
func RegOf(name string) (int, bool) {
	if name == "fp" {
		return s0, true
	}
	for n, own := range registerNames() {
		if name == own || name == "x"+strconv.Itoa(n) {
			return n, true
		}
	}
	return 0, false
}

func registerNames() [registerCount]string {
	return [registerCount]string{
		"zero", "ra", "sp", "gp", "tp", "t0", "t1", "t2", "s0", "s1", "a0", "a1", "a2", "a3", "a4", "a5",
		"a6", "a7", "s2", "s3", "s4", "s5", "s6", "s7", "s8", "s9", "s10", "s11", "t3", "t4", "t5", "t6",
	}
}
