package board_test

import (
	"math"
	"math/big"

	"anvil/api"
)

// The machine's instructions, by their bits. All that is not here is illegal.

// sx is the low n bits of v with their sign.
func sx(v uint32, n int) uint64 { return uint64(int64(v) << (64 - n) >> (64 - n)) }

// wide is the low half of a word with its sign.
func wide(v uint64) uint64 { return sx(uint32(v), 32) }

// from is the bits high down to low of raw.
func from(raw uint32, high, low int) uint32 { return raw >> low & (1<<(high-low+1) - 1) }

// set writes a register, and tells it.
func (m *machine) set(n uint32, v uint64) {
	if n != 0 {
		m.cpu.X[n] = v
		m.row.Rd, m.row.Val = int(n), v
	}
}

// met tells an access.
func (m *machine) met(mem int, addr uint64, size int, data uint64) {
	m.row.Mem, m.row.Addr, m.row.Size, m.row.Data = mem, addr, size, data
}

// low is the low bytes of v.
func low(v uint64, size int) uint64 {
	if size == 8 {
		return v
	}
	return v & (1<<(8*size) - 1)
}

func (m *machine) illegal() { panic(stop{2, uint64(m.row.Raw)}) }

func (m *machine) do(raw uint32, length uint64) {
	c := &m.cpu
	rd, f3, f7 := from(raw, 11, 7), from(raw, 14, 12), from(raw, 31, 25)
	a, b := c.X[from(raw, 19, 15)], c.X[from(raw, 24, 20)]
	number := sx(raw>>20, 12)
	pc, next := c.Pc, c.Pc+length
	switch from(raw, 6, 0) {
	case 0x37:
		m.set(rd, sx(raw&^0xfff, 32))
	case 0x17:
		m.set(rd, pc+sx(raw&^0xfff, 32))
	case 0x6f:
		m.set(rd, next)
		next = pc + sx(from(raw, 31, 31)<<20|from(raw, 19, 12)<<12|from(raw, 20, 20)<<11|from(raw, 30, 21)<<1, 21)
	case 0x67:
		if f3 != 0 {
			m.illegal()
		}
		m.set(rd, next)
		next = (a + number) &^ 1
	case 0x63:
		if m.branches(f3, a, b) {
			next = pc + sx(from(raw, 31, 31)<<12|from(raw, 7, 7)<<11|from(raw, 30, 25)<<5|from(raw, 11, 8)<<1, 13)
		}
	case 0x03:
		m.doLoad(rd, f3, a+number)
	case 0x23:
		m.doStore(f3, a+sx(f7<<5|rd, 12), b)
	case 0x13:
		m.set(rd, m.immediate(raw, a, number))
	case 0x1b:
		m.set(rd, m.immediateWord(raw, a, number))
	case 0x33:
		m.set(rd, m.both(f7, f3, a, b))
	case 0x3b:
		m.set(rd, m.bothWords(f7, f3, a, b))
	case 0x0f:
		if f3 > 1 {
			m.illegal()
		}
	case 0x2f:
		m.atomic(raw, a, b)
	case 0x73:
		if f3 != 0 {
			m.control(raw, a)
		} else {
			next = m.system(raw, next)
		}
	default:
		m.illegal()
	}
	c.Pc = next
}

func (m *machine) branches(f3 uint32, a, b uint64) bool {
	switch f3 {
	case 0, 1:
		return (a == b) == (f3 == 0)
	case 4, 5:
		return (int64(a) < int64(b)) == (f3 == 4)
	case 6, 7:
		return (a < b) == (f3 == 6)
	}
	m.illegal()
	return false
}

func (m *machine) doLoad(rd, f3 uint32, addr uint64) {
	if f3 == 7 {
		m.illegal()
	}
	size := 1 << (f3 & 3)
	m.checks(addr, size, 1, 4, false)
	v := m.load(addr, size)
	if f3 < 3 {
		v = sx(uint32(v), 8*size)
	}
	m.set(rd, v)
	m.met(1, addr, size, 0)
}

func (m *machine) doStore(f3 uint32, addr, v uint64) {
	if f3 > 3 {
		m.illegal()
	}
	size := 1 << f3
	m.checks(addr, size, 2, 6, false)
	m.store(addr, size, v)
	m.meets(addr, size)
	m.met(2, addr, size, low(v, size))
}

func (m *machine) immediate(raw uint32, a, number uint64) uint64 {
	f3, top, by := from(raw, 14, 12), from(raw, 31, 26), from(raw, 25, 20)
	switch {
	case f3 == 1 && top == 0:
		return a << by
	case f3 == 5 && top == 0:
		return a >> by
	case f3 == 5 && top == 16:
		return uint64(int64(a) >> by)
	case f3 == 1 || f3 == 5:
		m.illegal()
	}
	return m.both(0, f3, a, number)
}

func (m *machine) immediateWord(raw uint32, a, number uint64) uint64 {
	f7, f3 := from(raw, 31, 25), from(raw, 14, 12)
	switch f3 {
	case 0:
		return wide(a + number)
	case 1, 5:
		if f7 == 1 {
			m.illegal()
		}
		return m.bothWords(f7, f3, a, uint64(from(raw, 24, 20)))
	}
	m.illegal()
	return 0
}

func truth(is bool) uint64 {
	if is {
		return 1
	}
	return 0
}

func (m *machine) both(f7, f3 uint32, a, b uint64) uint64 {
	switch f7<<3 | f3 {
	case 0:
		return a + b
	case 1:
		return a << (b & 63)
	case 2:
		return truth(int64(a) < int64(b))
	case 3:
		return truth(a < b)
	case 4:
		return a ^ b
	case 5:
		return a >> (b & 63)
	case 6:
		return a | b
	case 7:
		return a & b
	case 32 << 3:
		return a - b
	case 32<<3 | 5:
		return uint64(int64(a) >> (b & 63))
	}
	if f7 != 1 {
		m.illegal()
	}
	switch f3 {
	case 0:
		return a * b
	case 1, 2, 3:
		return upper(a, b, f3 < 3, f3 == 1)
	}
	return divided(f3, a, b, 64)
}

func (m *machine) bothWords(f7, f3 uint32, a, b uint64) uint64 {
	w := uint32(a)
	switch f7<<3 | f3 {
	case 0:
		return wide(a + b)
	case 1:
		return wide(uint64(w << (b & 31)))
	case 5:
		return wide(uint64(w >> (b & 31)))
	case 32 << 3:
		return wide(a - b)
	case 32<<3 | 5:
		return wide(uint64(int32(w) >> (b & 31)))
	case 1 << 3:
		return wide(a * b)
	case 1<<3 | 4, 1<<3 | 5, 1<<3 | 6, 1<<3 | 7:
		return wide(divided(f3, a, b, 32))
	}
	m.illegal()
	return 0
}

// great is a word as a number, with a sign or without.
func great(v uint64, signed bool) *big.Int {
	if signed {
		return big.NewInt(int64(v))
	}
	return new(big.Int).SetUint64(v)
}

// word is a number modulo 2^64.
func word(n *big.Int) uint64 {
	return new(big.Int).And(n, new(big.Int).SetUint64(math.MaxUint64)).Uint64()
}

// upper is the upper half of a product.
func upper(a, b uint64, signedA, signedB bool) uint64 {
	n := new(big.Int).Mul(great(a, signedA), great(b, signedB))
	return word(n.Rsh(n, 64))
}

// divided is div, divu, rem, remu (f3 4 to 7) of so many bits.
func divided(f3 uint32, a, b uint64, bits int) uint64 {
	signed := f3&1 == 0
	if bits == 32 && signed {
		a, b = wide(a), wide(b)
	} else if bits == 32 {
		a, b = a&0xffffffff, b&0xffffffff
	}
	if b == 0 && f3 < 6 {
		return math.MaxUint64
	}
	if b == 0 {
		return a
	}
	quotient, rest := new(big.Int).QuoRem(great(a, signed), great(b, signed), new(big.Int))
	if f3 < 6 {
		return word(quotient)
	}
	return word(rest)
}

// system is the instructions of opcode 0x73 without a CSR: where it goes on.
func (m *machine) system(raw uint32, next uint64) uint64 {
	c := &m.cpu
	switch raw {
	case 0x00000073:
		panic(stop{8 + uint64(c.Mode), 0})
	case 0x00100073:
		panic(stop{3, c.Pc})
	case 0x10500073:
		if c.Mode == 0 && bit(c.Mstatus, 21) == 1 {
			m.illegal()
		}
		c.Waiting = true
		return next
	case 0x30200073:
		if c.Mode != 3 {
			m.illegal()
		}
		c.Mode = int(c.Mstatus >> 11 & 3)
		c.Mstatus = c.Mstatus&^0x1888 | bit(c.Mstatus, 7)<<3 | 0x80
		if c.Mode == 0 {
			c.Mstatus &^= 1 << 17
		}
		c.Res = api.Res{}
		return c.Mepc
	}
	m.illegal()
	return 0
}

func (m *machine) atomic(raw uint32, addr, b uint64) {
	c := &m.cpu
	rd, f5, f3 := from(raw, 11, 7), from(raw, 31, 27), from(raw, 14, 12)
	if f3 != 2 && f3 != 3 {
		m.illegal()
	}
	size := 1 << f3
	widened := func(v uint64) uint64 {
		if size == 4 {
			return wide(v)
		}
		return v
	}
	switch f5 {
	case 2:
		if from(raw, 24, 20) != 0 {
			m.illegal()
		}
		m.checks(addr, size, 1, 4, true)
		m.set(rd, widened(m.take(addr, size)))
		m.met(1, addr, size, 0)
		c.Res = api.Res{Valid: true, Addr: addr, Size: size}
		return
	case 3:
		m.checks(addr, size, 2, 6, true)
		fits := c.Res == api.Res{Valid: true, Addr: addr, Size: size}
		if fits {
			m.put(addr, size, b)
			m.met(2, addr, size, low(b, size))
		}
		m.set(rd, truth(!fits))
		c.Res = api.Res{}
		return
	case 0, 1, 4, 8, 12, 16, 20, 24, 28:
		m.checks(addr, size, 3, 6, true)
		old := widened(m.take(addr, size))
		made := low(combined(f5, old, widened(b)), size)
		m.put(addr, size, made)
		m.meets(addr, size)
		m.set(rd, old)
		m.met(3, addr, size, made)
		return
	}
	m.illegal()
}

// combined is what an AMO makes of two numbers; those of four bytes come with their sign, which keeps the order of the unsigned ones too.
func combined(f5 uint32, old, b uint64) uint64 {
	switch f5 {
	case 0:
		return old + b
	case 1:
		return b
	case 4:
		return old ^ b
	case 8:
		return old | b
	case 12:
		return old & b
	case 16:
		return uint64(min(int64(old), int64(b)))
	case 20:
		return uint64(max(int64(old), int64(b)))
	case 24:
		return min(old, b)
	}
	return max(old, b)
}

// control is the CSR instructions.
func (m *machine) control(raw uint32, a uint64) {
	c := &m.cpu
	f3, num, one := from(raw, 14, 12), from(raw, 31, 20), from(raw, 19, 15)
	if f3 == 4 {
		m.illegal()
	}
	if f3 > 4 {
		a = uint64(one)
	}
	old := m.readCsr(num)
	if f3&3 == 1 || one != 0 {
		switch f3 & 3 {
		case 2:
			a |= old
		case 3:
			a = old &^ a
		}
		if c.Mode != 3 || num>>10 == 3 {
			m.illegal()
		}
		m.writeCsr(num, a)
		m.wrote = num
	}
	m.set(from(raw, 11, 7), old)
}

// within tells whether a CSR's number is one of a run.
func within(num, first, last uint32) bool { return first <= num && num <= last }

func (m *machine) readCsr(num uint32) uint64 {
	c := &m.cpu
	if c.Mode == 0 && !(within(num, 0xc00, 0xc02) && bit(c.Mcounteren, int(num-0xc00)) == 1) {
		m.illegal()
	}
	switch num {
	case 0xf13:
		return 1
	case 0x300:
		return c.Mstatus
	case 0x301:
		return 0x8000000000101105
	case 0x344:
		return m.mip()
	case 0xc01:
		return m.bus.Mtime
	case 0xb00, 0xc00:
		return c.Mcycle
	case 0xb02, 0xc02:
		return c.Minstret
	case 0x3a0, 0x3a2:
		v := uint64(0)
		for k := range 8 {
			v |= uint64(c.Pmp.Cfg[4*int(num&2)+k]) << (8 * k)
		}
		return v
	}
	if kept := m.plainCsr(num); kept != nil {
		return *kept
	}
	switch {
	case within(num, 0x3b0, 0x3bf):
		return c.Pmp.Addr[num-0x3b0]
	case within(num, 0xf11, 0xf15), within(num, 0x323, 0x33f), within(num, 0xb03, 0xb1f), within(num, 0xc03, 0xc1f):
		return 0
	}
	m.illegal()
	return 0
}

// plainCsr is a CSR that is kept as it is read.
func (m *machine) plainCsr(num uint32) *uint64 {
	c := &m.cpu
	switch num {
	case 0x304:
		return &c.Mie
	case 0x305:
		return &c.Mtvec
	case 0x306:
		return &c.Mcounteren
	case 0x30a:
		return &c.Menvcfg
	case 0x320:
		return &c.Mcountinhibit
	case 0x340:
		return &c.Mscratch
	case 0x341:
		return &c.Mepc
	case 0x342:
		return &c.Mcause
	case 0x343:
		return &c.Mtval
	}
	return nil
}

func (m *machine) writeCsr(num uint32, v uint64) {
	c := &m.cpu
	kept := m.plainCsr(num)
	switch {
	case num == 0x300:
		if mode := v >> 11 & 3; mode == 1 || mode == 2 {
			v = v&^0x1800 | c.Mstatus&0x1800
		}
		c.Mstatus = v
	case num == 0xb00:
		c.Mcycle = v
	case num == 0xb02:
		c.Minstret = v
	case num == 0x3a0 || num == 0x3a2:
		for k := range 8 {
			if own := &c.Pmp.Cfg[4*int(num&2)+k]; *own&0x80 == 0 {
				*own = uint8(v >> (8 * k))
			}
		}
	case within(num, 0x3b0, 0x3bf):
		i := int(num - 0x3b0)
		before := i < 15 && c.Pmp.Cfg[i+1]&0x98 == 0x88
		if c.Pmp.Cfg[i]&0x80 == 0 && !before {
			c.Pmp.Addr[i] = v
		}
	case kept != nil:
		*kept = v
	}
	*c = proper(*c) // what a write keeps is what a proper Cpu has
}
