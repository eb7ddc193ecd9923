package csr_test

import (
	"testing"

	"anvil/api"
	"anvil/csr"
)

// The model: what the document's tables say, a row a line, bit by bit. Of the program it uses nothing, of layer pmp neither.

// pick is the bits of v whose numbers are told, and no other.
func pick(v uint64, numbers ...int) uint64 {
	sum := uint64(0)
	for _, n := range numbers {
		if v>>n%2 == 1 {
			sum += 1 << n
		}
	}
	return sum
}

// span is the numbers from one to another, both with it.
func span(from, to int) []int {
	var l []int
	for n := from; n <= to; n++ {
		l = append(l, n)
	}
	return l
}

func modelCfg(b uint8) uint8 {
	if b%4 == 2 {
		b -= 2
	}
	return uint8(pick(uint64(b), 0, 1, 2, 3, 4, 7))
}

func modelProper(c api.Cpu) api.Cpu {
	d := api.Cpu{Waiting: c.Waiting}
	d.Pc = c.Pc / 2 * 2
	copy(d.X[1:], c.X[1:])
	if c.Mode == 3 {
		d.Mode = 3
	}
	d.Mstatus = pick(c.Mstatus, 3, 7, 17, 21) + 2*(1<<32)
	if c.Mstatus>>11%4 == 3 {
		d.Mstatus += 3 << 11
	}
	d.Mtvec = c.Mtvec - pick(c.Mtvec, 1)
	d.Mie = pick(c.Mie, 3, 7, 11)
	d.Mcounteren = pick(c.Mcounteren, 0, 1, 2)
	d.Mcountinhibit = pick(c.Mcountinhibit, 0, 2)
	d.Menvcfg = pick(c.Menvcfg, 0)
	d.Mscratch, d.Mcause, d.Mtval, d.Mcycle, d.Minstret = c.Mscratch, c.Mcause, c.Mtval, c.Mcycle, c.Minstret
	d.Mepc = c.Mepc / 2 * 2
	for i := range 16 {
		d.Pmp.Cfg[i] = modelCfg(c.Pmp.Cfg[i])
		d.Pmp.Addr[i] = c.Pmp.Addr[i] % (1 << 54)
	}
	if c.Res.Valid && (c.Res.Size == 4 && c.Res.Addr%4 == 0 || c.Res.Size == 8 && c.Res.Addr%8 == 0) {
		d.Res = c.Res
	}
	return d
}

// outside is what a Read is told of the bus.
type outside struct{ mip, time uint64 }

// row is a row of the table of CSRs: its numbers, what is read of the k-th of them, and what a write does there (nil: nothing).
type row struct {
	first, last int
	read        func(c api.Cpu, o outside, k int) uint64
	write       func(c *api.Cpu, k int, v uint64)
}

func zero(api.Cpu, outside, int) uint64 { return 0 }

var table = []row{
	{0xf11, 0xf12, zero, nil},
	{0xf13, 0xf13, func(api.Cpu, outside, int) uint64 { return 1 }, nil},
	{0xf14, 0xf15, zero, nil},
	{0x300, 0x300, func(c api.Cpu, _ outside, _ int) uint64 { return c.Mstatus }, modelStatus},
	{0x301, 0x301, func(api.Cpu, outside, int) uint64 { return 0x8000000000101105 }, nil},
	{0x304, 0x304, func(c api.Cpu, _ outside, _ int) uint64 { return c.Mie }, func(c *api.Cpu, _ int, v uint64) { c.Mie = pick(v, 3, 7, 11) }},
	{0x305, 0x305, func(c api.Cpu, _ outside, _ int) uint64 { return c.Mtvec }, func(c *api.Cpu, _ int, v uint64) { c.Mtvec = v - pick(v, 1) }},
	{0x306, 0x306, func(c api.Cpu, _ outside, _ int) uint64 { return c.Mcounteren }, func(c *api.Cpu, _ int, v uint64) { c.Mcounteren = v % 8 }},
	{0x30a, 0x30a, func(c api.Cpu, _ outside, _ int) uint64 { return c.Menvcfg }, func(c *api.Cpu, _ int, v uint64) { c.Menvcfg = v % 2 }},
	{0x320, 0x320, func(c api.Cpu, _ outside, _ int) uint64 { return c.Mcountinhibit }, func(c *api.Cpu, _ int, v uint64) { c.Mcountinhibit = pick(v, 0, 2) }},
	{0x323, 0x33f, zero, nil},
	{0x340, 0x340, func(c api.Cpu, _ outside, _ int) uint64 { return c.Mscratch }, func(c *api.Cpu, _ int, v uint64) { c.Mscratch = v }},
	{0x341, 0x341, func(c api.Cpu, _ outside, _ int) uint64 { return c.Mepc }, func(c *api.Cpu, _ int, v uint64) { c.Mepc = v - v%2 }},
	{0x342, 0x342, func(c api.Cpu, _ outside, _ int) uint64 { return c.Mcause }, func(c *api.Cpu, _ int, v uint64) { c.Mcause = v }},
	{0x343, 0x343, func(c api.Cpu, _ outside, _ int) uint64 { return c.Mtval }, func(c *api.Cpu, _ int, v uint64) { c.Mtval = v }},
	{0x344, 0x344, func(_ api.Cpu, o outside, _ int) uint64 { return pick(o.mip, 3, 7, 11) }, nil},
	{0x3a0, 0x3a0, func(c api.Cpu, _ outside, _ int) uint64 { return modelReadCfg(c, 0) }, func(c *api.Cpu, _ int, v uint64) { modelWriteCfg(c, 0, v) }},
	{0x3a2, 0x3a2, func(c api.Cpu, _ outside, _ int) uint64 { return modelReadCfg(c, 8) }, func(c *api.Cpu, _ int, v uint64) { modelWriteCfg(c, 8, v) }},
	{0x3b0, 0x3bf, func(c api.Cpu, _ outside, k int) uint64 { return c.Pmp.Addr[k] }, modelWriteAddr},
	{0xb00, 0xb00, func(c api.Cpu, _ outside, _ int) uint64 { return c.Mcycle }, func(c *api.Cpu, _ int, v uint64) { c.Mcycle = v }},
	{0xb02, 0xb02, func(c api.Cpu, _ outside, _ int) uint64 { return c.Minstret }, func(c *api.Cpu, _ int, v uint64) { c.Minstret = v }},
	{0xb03, 0xb1f, zero, nil},
	{0xc00, 0xc00, func(c api.Cpu, _ outside, _ int) uint64 { return c.Mcycle }, nil},
	{0xc01, 0xc01, func(_ api.Cpu, o outside, _ int) uint64 { return o.time }, nil},
	{0xc02, 0xc02, func(c api.Cpu, _ outside, _ int) uint64 { return c.Minstret }, nil},
	{0xc03, 0xc1f, zero, nil},
}

func modelStatus(c *api.Cpu, _ int, v uint64) {
	mpp := c.Mstatus >> 11 % 4
	switch v >> 11 % 4 {
	case 0:
		mpp = 0
	case 3:
		mpp = 3
	}
	c.Mstatus = pick(v, 3, 7, 17, 21) + mpp<<11 + 2<<32
}

func modelReadCfg(c api.Cpu, first int) uint64 {
	v := uint64(0)
	for k := 7; k >= 0; k-- {
		v = v*256 + uint64(c.Pmp.Cfg[first+k])
	}
	return v
}

func modelWriteCfg(c *api.Cpu, first int, v uint64) {
	for k := range 8 {
		if c.Pmp.Cfg[first+k] < 0x80 {
			c.Pmp.Cfg[first+k] = modelCfg(uint8(v))
		}
		v /= 256
	}
}

func modelWriteAddr(c *api.Cpu, k int, v uint64) {
	held := c.Pmp.Cfg[k] >= 0x80 || k < 15 && c.Pmp.Cfg[k+1]&0x98 == 0x88
	if !held {
		c.Pmp.Addr[k] = v % (1 << 54)
	}
}

// rowOf is the row of a number, and the number's place in it.
func rowOf(num int) (row, int, bool) {
	for _, r := range table {
		if num >= r.first && num <= r.last {
			return r, num - r.first, true
		}
	}
	return row{}, 0, false
}

func modelRead(c api.Cpu, mip, time uint64, num int) (uint64, bool) {
	c = modelProper(c)
	r, k, there := rowOf(num)
	if !there || c.Mode == 0 && (num < 0xc00 || num > 0xc02 || c.Mcounteren>>(num-0xc00)%2 == 0) {
		return 0, false
	}
	return r.read(c, outside{mip, time}, k), true
}

func modelWrite(c api.Cpu, num int, v uint64) (api.Cpu, bool) {
	c = modelProper(c)
	r, k, there := rowOf(num)
	if !there || c.Mode == 0 || num >= 0xc00 {
		return c, false
	}
	if r.write != nil {
		r.write(&c, k, v)
	}
	return c, true
}

// readsAsModel holds a Read against the model's.
func readsAsModel(t *testing.T, c api.Cpu, mip, time uint64, num int) {
	t.Helper()
	v, legal := csr.Read(c, mip, time, num)
	if want, may := modelRead(c, mip, time, num); v != want || legal != may {
		t.Errorf("Read(%+v, %#x, %#x, %#x) is %#x, %v, want %#x, %v", c, mip, time, num, v, legal, want, may)
	}
}

// writesAsModel holds a Write against the model's, and answers what came of it.
func writesAsModel(t *testing.T, c api.Cpu, num int, v uint64) api.Cpu {
	t.Helper()
	d, legal := csr.Write(c, num, v)
	if want, may := modelWrite(c, num, v); d != want || legal != may {
		t.Errorf("Write(%+v, %#x, %#x) is\n%+v, %v, want\n%+v, %v", c, num, v, d, legal, want, may)
	}
	return d
}
