package save_test

import (
	"bytes"
	"math"
	"math/rand/v2"
	"testing"

	"anvil/api"
	"anvil/save"
)

// The numbers as the document writes them.
const (
	ram       = 0x80000000
	maxRam    = 65536
	maxInput  = 64
	maxOutput = 4096
	maxSave   = 72000
	longest   = 70777
	shortest  = 569
	ones      = math.MaxUint64
	uxl       = 0x200000000
)

// least is the whole of example 1.
func least() api.Whole { return api.Whole{Bus: api.Bus{Ram: make([]byte, 8)}} }

// rich is a whole with something of its own in every field, and a proper Cpu; its RAM has a blank page, and ends in a short one.
func rich() api.Whole {
	var w api.Whole
	c, b := &w.Cpu, &w.Bus
	c.Pc, c.Mode, c.Waiting = 0x8000000080000102, api.M, true
	for i := range 31 {
		c.X[i+1] = 0x0102030405060708 * uint64(i+1)
	}
	c.Mstatus, c.Mtvec, c.Mie, c.Mcounteren, c.Mcountinhibit, c.Menvcfg = uxl|0x201880, 0x1122334455667789, 0x808, 6, 4, 1
	c.Mscratch, c.Mepc, c.Mcause = 0x1112131415161718, 0x2122232425262728, 0x3132333435363738
	c.Mtval, c.Mcycle, c.Minstret = 0x4142434445464748, 0x5152535455565758, 0x6162636465666768
	for i := range 16 {
		c.Pmp.Cfg[i], c.Pmp.Addr[i] = uint8(i*8&0x18|i/4*4|1), 0x0021222324252600+uint64(i)
	}
	c.Pmp.Cfg[15] = 0x9f
	c.Res = api.Res{Valid: true, Addr: 0x7172737475767778, Size: 8}
	b.Ram = make([]byte, 1000)
	b.Ram[0], b.Ram[255], b.Ram[600], b.Ram[999] = 1, 2, 3, 4
	b.Msip, b.Mtimecmp, b.Mtime, b.Ext, b.Soft = 1, 0x8182838485868788, 0x9192939495969798, true, true
	b.Ier, b.Lcr, b.Mcr, b.Scratch, b.Overrun = 9, 0x83, 0x15, 0xc7, true
	b.Input, b.Output, b.Off, b.Code = []byte("\xe9nput"), []byte("out\x00put"), api.Failed, 0xabcd
	return w
}

// greatest is a whole in which every field is as great as it can be: it has the longest snapshot.
func greatest() api.Whole {
	w := rich()
	c, b := &w.Cpu, &w.Bus
	for i := range 31 {
		c.X[i+1] = ones
	}
	c.Pc, c.Mtvec, c.Mie, c.Mcounteren, c.Mcountinhibit, c.Mepc = ones-1, ones-2, 0x888, 7, 5, ones-1
	c.Mstatus, c.Mscratch, c.Mcause, c.Mtval, c.Mcycle, c.Minstret = 0x200221888, ones, ones, ones, ones, ones
	for i := range 16 {
		c.Pmp.Cfg[i], c.Pmp.Addr[i] = 0x9f, 1<<54-1
	}
	c.Res.Addr = ones - 7
	b.Ram = bytes.Repeat([]byte{0xff}, maxRam)
	b.Mtimecmp, b.Mtime, b.Ier, b.Lcr, b.Mcr, b.Scratch, b.Code = ones, ones, 15, 255, 31, 255, 65535
	b.Input, b.Output = bytes.Repeat([]byte{0xfe}, maxInput), bytes.Repeat([]byte{0xfd}, maxOutput)
	return w
}

// copied is a whole with lists of its own.
func copied(w api.Whole) api.Whole {
	w.Bus.Ram, w.Bus.Input, w.Bus.Output = bytes.Clone(w.Bus.Ram), bytes.Clone(w.Bus.Input), bytes.Clone(w.Bus.Output)
	return w
}

// same compares wholes; nil and an empty list are the same.
func same(a, b api.Whole) bool {
	registers := func(s api.Bus) [4]uint8 { return [...]uint8{s.Ier, s.Lcr, s.Mcr, s.Scratch} }
	s, t := a.Bus, b.Bus
	return a.Cpu == b.Cpu && bytes.Equal(s.Ram, t.Ram) && s.Msip == t.Msip && s.Mtimecmp == t.Mtimecmp && s.Mtime == t.Mtime &&
		s.Ext == t.Ext && s.Soft == t.Soft && registers(s) == registers(t) && s.Overrun == t.Overrun &&
		bytes.Equal(s.Input, t.Input) && bytes.Equal(s.Output, t.Output) && s.Off == t.Off && s.Code == t.Code
}

// saved is the snapshot of a whole that can be.
func saved(t *testing.T, w api.Whole) []byte {
	t.Helper()
	b, e := save.Save(w)
	if e != api.OK {
		t.Fatalf("P16.2: Save answers error %d of\n%+v", e, w)
	}
	return b
}

// loaded is the whole of a snapshot.
func loaded(t *testing.T, b []byte) api.Whole {
	t.Helper()
	w, e := save.Load(b)
	if e != api.OK {
		t.Fatalf("P16.3: Load answers error %d of\n% x", e, b)
	}
	return w
}

// refused: Load must answer this error, and nothing else.
func refused(t *testing.T, what string, b []byte, want api.Errno) {
	t.Helper()
	w, e := save.Load(b)
	if e != want {
		t.Errorf("P16.3: %s: Load answers error %d, want %d", what, e, want)
	}
	if w.Bus.Ram != nil || w.Bus.Input != nil || w.Bus.Output != nil || !same(w, api.Whole{}) {
		t.Errorf("P16.3: %s: beside an error Load answers %+v", what, w)
	}
}

// random is a source that gives the same numbers each time.
func random(seed uint64) *rand.Rand { return rand.New(rand.NewPCG(seed, 16)) }

func one[T any](r *rand.Rand, of ...T) T { return of[r.IntN(len(of))] }

// anyWord is any bits: few, many, or as many of either kind.
func anyWord(r *rand.Rand) uint64 {
	return one(r, 0, ones, 1<<r.IntN(64), r.Uint64()&r.Uint64()&r.Uint64(), r.Uint64(), r.Uint64())
}

// anyBytes is so many bytes of any kind.
func anyBytes(r *rand.Rand, n int) []byte {
	b := make([]byte, n)
	for i := range b {
		b[i] = byte(r.Uint32())
	}
	return b
}

// words is every number of 64 bits that a Cpu has.
func words(c *api.Cpu) []*uint64 {
	all := []*uint64{
		&c.Pc, &c.Mstatus, &c.Mtvec, &c.Mie, &c.Mcounteren, &c.Mcountinhibit, &c.Menvcfg,
		&c.Mscratch, &c.Mepc, &c.Mcause, &c.Mtval, &c.Mcycle, &c.Minstret, &c.Res.Addr,
	}
	for i := range c.X {
		all = append(all, &c.X[i])
	}
	for i := range c.Pmp.Addr {
		all = append(all, &c.Pmp.Addr[i])
	}
	return all
}

// anyCpu is a Cpu of any bits at all, those that cannot be too.
func anyCpu(r *rand.Rand) api.Cpu {
	c := api.Cpu{Mode: one(r, 3, 3, 0, 0, 1, 2, -1, 259, 1<<32+3, r.Int()), Waiting: r.IntN(2) == 0}
	for _, w := range words(&c) {
		*w = anyWord(r)
	}
	for i := range c.Pmp.Cfg {
		c.Pmp.Cfg[i] = uint8(r.Uint32())
	}
	c.Res.Valid, c.Res.Size = r.IntN(3) > 0, one(r, 4, 8, 4, 8, 4, 8, 0, 1, 2, 16, -4, 260, 1<<32+8)
	if r.IntN(4) > 0 {
		c.Res.Addr &^= 7
	}
	return c
}

// anyRam is RAM of any length that can be, mostly some pages, many of them blank.
func anyRam(r *rand.Rand) []byte {
	size := 8 * (1 + r.IntN(200))
	if r.IntN(10) == 0 {
		size = one(r, 8, 248, 256, 264, 512, maxRam-8, maxRam)
	}
	cells := make([]byte, size)
	for from := 0; from < size; from += 256 {
		switch page := cells[from:min(from+256, size)]; r.IntN(4) {
		case 0:
			copy(page, anyBytes(r, len(page)))
		case 1:
			page[r.IntN(len(page))] = byte(1 + r.IntN(255))
		}
	}
	return cells
}

// anyBus is any state that can be.
func anyBus(r *rand.Rand) api.Bus {
	b := api.Bus{Ram: anyRam(r), Msip: uint32(r.IntN(2)), Mtimecmp: anyWord(r), Mtime: anyWord(r)}
	b.Ext, b.Soft, b.Overrun = r.IntN(2) == 0, r.IntN(2) == 0, r.IntN(2) == 0
	b.Ier, b.Lcr, b.Mcr, b.Scratch = uint8(r.IntN(16)), uint8(r.Uint32()), uint8(r.IntN(32)), uint8(r.Uint32())
	b.Input = anyBytes(r, one(r, 0, 1, r.IntN(maxInput+1), maxInput))
	b.Output = anyBytes(r, one(r, 0, 1, r.IntN(300), 255, 256, 257, r.IntN(maxOutput+1), maxOutput))
	if b.Off = r.IntN(3); b.Off == api.Failed {
		b.Code = one(r, 0, 1, 255, 256, 65535, r.IntN(65536))
	}
	return b
}

// anyWhole is any whole that can be, its Cpu proper or not.
func anyWhole(r *rand.Rand) api.Whole { return api.Whole{Cpu: anyCpu(r), Bus: anyBus(r)} }
