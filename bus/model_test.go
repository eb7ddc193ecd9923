package bus_test

import (
	"bytes"
	"fmt"
	"math/big"
	"math/rand/v2"
	"slices"
	"testing"

	"anvil/api"
	"anvil/bus"
)

// model is a bus told another way: a state and the chapter's tables, word for word.
type model struct {
	s api.Bus
}

// spot is a device's row of the chapter's table.
type spot struct {
	addr uint64
	size int
	name string
}

func spots() []spot {
	list := []spot{
		{0x100000, 4, "finisher"}, {0x2000000, 4, "msip"},
		{0x2004000, 4, "cmp low"}, {0x2004004, 4, "cmp high"}, {0x2004000, 8, "cmp"},
		{0x200bff8, 4, "time low"}, {0x200bffc, 4, "time high"}, {0x200bff8, 8, "time"},
	}
	for i := range 8 {
		list = append(list, spot{0x10000000 + uint64(i), 1, fmt.Sprint("uart ", i)})
	}
	return list
}

// inRam counts with numbers of any length, so that nothing wraps.
func (m *model) inRam(addr uint64, size int) bool {
	first := new(big.Int).SetUint64(addr)
	lastOne := new(big.Int).Add(first, big.NewInt(int64(size)))
	lastOne.Sub(lastOne, big.NewInt(1))
	low := new(big.Int).SetUint64(0x80000000)
	high := new(big.Int).SetUint64(0x80000000 + uint64(len(m.s.Ram)) - 1)
	return size >= 1 && first.Cmp(low) >= 0 && lastOne.Cmp(high) <= 0
}

// where is the name of what an access finds: "" for nothing.
func (m *model) where(addr uint64, size int) string {
	if slices.Contains([]int{1, 2, 4, 8}, size) && addr%uint64(size) == 0 && m.inRam(addr, size) {
		return "ram"
	}
	for _, x := range spots() {
		if x.addr == addr && x.size == size {
			return x.name
		}
	}
	return ""
}

func (m *model) line() bool { return m.s.Ier%2 == 1 && len(m.s.Input) > 0 }

// choose is a if c holds, else b.
func choose(c bool, a, b uint64) uint64 {
	if c {
		return a
	}
	return b
}

func (m *model) load(addr uint64, size int) (uint64, bool) {
	name := m.where(addr, size)
	switch name {
	case "", "finisher", "uart 6":
		return 0, name != ""
	case "ram":
		v := uint64(0)
		for i := size - 1; i >= 0; i-- {
			v = v*256 + uint64(m.s.Ram[addr-0x80000000+uint64(i)])
		}
		return v, true
	case "msip":
		return uint64(m.s.Msip), true
	case "cmp", "cmp low", "cmp high":
		return halfOf(m.s.Mtimecmp, name[3:]), true
	case "time", "time low", "time high":
		return halfOf(m.s.Mtime, name[4:]), true
	}
	return m.loadUart(int(name[5] - '0')), true
}

func halfOf(v uint64, which string) uint64 {
	switch which {
	case " low":
		return v % (1 << 32)
	case " high":
		return v / (1 << 32)
	}
	return v
}

func (m *model) loadUart(register int) uint64 {
	switch register {
	case 0:
		if len(m.s.Input) == 0 {
			return 0
		}
		c := m.s.Input[0]
		m.s.Input = m.s.Input[1:]
		return uint64(c)
	case 1:
		return uint64(m.s.Ier)
	case 2:
		return choose(m.line(), 4, 1)
	case 3:
		return uint64(m.s.Lcr)
	case 4:
		return uint64(m.s.Mcr)
	case 5:
		v := choose(len(m.s.Input) > 0, 1, 0) + choose(m.s.Overrun, 2, 0) + choose(len(m.s.Output) < 4096, 96, 0)
		m.s.Overrun = false
		return v
	}
	return uint64(m.s.Scratch)
}

func (m *model) store(addr uint64, size int, v uint64) bool {
	name := m.where(addr, size)
	switch name {
	case "":
		return false
	case "ram":
		for i := range uint64(size) {
			m.s.Ram[addr-0x80000000+i] = byte(v)
			v /= 256
		}
	case "finisher":
		m.storeFinisher(v%65536, v/65536%65536)
	case "msip":
		m.s.Msip = uint32(v % 2)
	case "cmp", "cmp low", "cmp high":
		m.s.Mtimecmp = withHalf(m.s.Mtimecmp, name[3:], v)
	case "time", "time low", "time high":
		m.s.Mtime = withHalf(m.s.Mtime, name[4:], v)
	default:
		m.storeUart(int(name[5]-'0'), byte(v%256))
	}
	return true
}

func (m *model) storeFinisher(low, high uint64) {
	if m.s.Off != 0 {
		return
	}
	if low == 0x5555 {
		m.s.Off = 1
	}
	if low == 0x3333 {
		m.s.Off, m.s.Code = 2, int(high)
	}
}

func withHalf(old uint64, which string, v uint64) uint64 {
	low, high := old%(1<<32), old/(1<<32)
	switch which {
	case " low":
		return high*(1<<32) + v%(1<<32)
	case " high":
		return v%(1<<32)*(1<<32) + low
	}
	return v
}

func (m *model) storeUart(register int, v byte) {
	switch register {
	case 0:
		if len(m.s.Output) < 4096 {
			m.s.Output = append(m.s.Output, v)
		}
	case 1:
		m.s.Ier = v % 16
	case 2:
		if v/2%2 == 1 {
			m.s.Input = nil
		}
	case 3:
		m.s.Lcr = v
	case 4:
		m.s.Mcr = v % 32
	case 7:
		m.s.Scratch = v
	}
}

func (m *model) begin(w api.World) {
	if m.s.Off != 0 {
		return
	}
	for _, c := range w.Input {
		if len(m.s.Input) < 64 {
			m.s.Input = append(m.s.Input, c)
		} else {
			m.s.Overrun = true
		}
	}
	m.s.Ext, m.s.Soft = w.Ext, w.Soft
	if w.Tick {
		m.s.Mtime++
	}
}

func (m *model) mip() uint64 {
	return choose(m.s.Msip == 1 || m.s.Soft, 8, 0) + choose(m.s.Mtime >= m.s.Mtimecmp, 0x80, 0) + choose(m.s.Ext || m.line(), 0x800, 0)
}

func (m *model) peek(addr uint64, n int) ([]byte, api.Errno) {
	if n < 0 {
		return nil, api.ErrArg
	}
	if n > 0 && !m.inRam(addr, n) {
		return nil, api.ErrUnmapped
	}
	var p []byte
	for i := range uint64(n) {
		p = append(p, m.s.Ram[addr-0x80000000+i])
	}
	return p, api.OK
}

func (m *model) poke(addr uint64, p []byte) api.Errno {
	if _, e := m.peek(addr, len(p)); e != api.OK {
		return e
	}
	for i, c := range p {
		m.s.Ram[addr-0x80000000+uint64(i)] = c
	}
	return api.OK
}

// step makes one call, by chance, at the bus and at the model, and tells it if they answer otherwise.
func (m *model) step(b *bus.Bus, r *rand.Rand, where []uint64) string {
	addr := where[r.IntN(len(where))]
	size := 1 << r.IntN(4)
	if r.IntN(8) == 0 {
		size = r.IntN(20) - 4
	}
	bytesOf := func(most int) []byte {
		p := make([]byte, r.IntN(most))
		for i := range p {
			p[i] = byte(r.Uint32())
		}
		return p
	}
	switch r.IntN(8) {
	case 0, 1:
		v, there := b.Load(addr, size)
		if w, ok := m.load(addr, size); v != w || there != ok {
			return fmt.Sprintf("Load(%#x, %d) answers %#x, %v, want %#x, %v", addr, size, v, there, w, ok)
		}
	case 2, 3, 4:
		v := r.Uint64()
		if m.where(addr, size) == "finisher" && r.IntN(300) == 0 {
			v = v&^0xffff | [2]uint64{0x5555, 0x3333}[r.IntN(2)]
		}
		if there, ok := b.Store(addr, size, v), m.store(addr, size, v); there != ok {
			return fmt.Sprintf("Store(%#x, %d, %#x) answers %v, want %v", addr, size, v, there, ok)
		}
	case 5:
		w := api.World{Tick: r.IntN(2) == 0, Ext: r.IntN(4) == 0, Soft: r.IntN(4) == 0}
		if r.IntN(3) == 0 {
			w.Input = bytesOf(1 << r.IntN(8))
		}
		b.Begin(w)
		m.begin(w)
	case 6:
		p, e := b.Peek(addr, size)
		if q, f := m.peek(addr, size); e != f || !bytes.Equal(p, q) {
			return fmt.Sprintf("Peek(%#x, %d) answers %x, %d, want %x, %d", addr, size, p, e, q, f)
		}
	case 7:
		p := bytesOf(12)
		if e, f := b.Poke(addr, p), m.poke(addr, p); e != f {
			return fmt.Sprintf("Poke(%#x, %x) answers %d, want %d", addr, p, e, f)
		}
	}
	return ""
}

// near are addresses of which most accesses are there.
func near(size int) []uint64 {
	var list []uint64
	for range 12 {
		for _, x := range spots() {
			list = append(list, x.addr)
		}
	}
	for i := range uint64(size + 4) {
		list = append(list, ram+i, ram+i&^7, ram+i&^3)
	}
	return append(list, places(size)[:400]...)
}

// TestP3Model: calls by chance, in long rows, answer as the chapter's words do, and leave what they leave.
func TestP3Model(t *testing.T) {
	for seed := range uint64(60) {
		r := dice(seed)
		s := rich()
		if seed%3 == 0 {
			s.Ram = make([]byte, 8*(1+r.IntN(6)))
		}
		if seed%5 == 1 {
			s.Output = make([]byte, 4000)
		}
		b, m := of(t, s), model{copied(s)}
		where := near(len(s.Ram))
		for call := range 3000 {
			said := m.step(b, r, where)
			if said == "" && !same(b.State(), m.s) {
				said = "the state is\n" + brief(b.State()) + ", want\n" + brief(m.s)
			}
			if said == "" && (b.Mip() != m.mip() || b.Time() != m.s.Mtime || !bytes.Equal(b.Output(), m.s.Output)) {
				said = "Mip, Time or Output"
			}
			if h, c := b.Off(); said == "" && (h != m.s.Off || c != m.s.Code) {
				said = "Off"
			}
			if said != "" {
				t.Fatalf("seed %d, call %d: %s", seed, call, said)
			}
		}
	}
}
