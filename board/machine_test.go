package board_test

import (
	"bytes"
	"math"
	"slices"

	"anvil/api"
)

// The machine is the document's computer once more, from DOC.md's sections "The bus" to "One step" and nothing else: it calls no layer. What a play tells is held against it.
type machine struct {
	cpu   api.Cpu
	bus   api.Bus
	steps int
	row   api.Row
	wrote uint32 // the CSR that this step's instruction wrote
}

// stop is an exception: it leaves an instruction of the machine by panic.
type stop struct{ cause, tval uint64 }

func begun(d api.Deck) *machine {
	m := &machine{cpu: proper(d.Cpu)}
	m.bus.Ram = make([]byte, d.Ram)
	m.bus.Mtime, m.bus.Mtimecmp = d.Mtime, math.MaxUint64
	for _, p := range d.Parts {
		for i := range p.Size {
			m.bus.Ram[p.Addr-ram+i] = 0
			if i < uint64(len(p.Data)) {
				m.bus.Ram[p.Addr-ram+i] = p.Data[i]
			}
		}
	}
	return m
}

func bit(v uint64, n int) uint64 { return v >> n & 1 }

// only is the bits of v with these numbers.
func only(v uint64, numbers ...int) uint64 {
	sum := uint64(0)
	for _, n := range numbers {
		sum |= bit(v, n) << n
	}
	return sum
}

func proper(c api.Cpu) api.Cpu {
	c.Pc, c.X[0] = c.Pc&^1, 0
	if c.Mode != 3 {
		c.Mode = 0
	}
	status := only(c.Mstatus, 3, 7, 17, 21) | 2<<32
	if c.Mstatus>>11&3 == 3 {
		status |= 3 << 11
	}
	c.Mstatus, c.Mtvec, c.Mepc = status, c.Mtvec&^2, c.Mepc&^1
	c.Mie, c.Mcounteren = only(c.Mie, 3, 7, 11), c.Mcounteren&7
	c.Mcountinhibit, c.Menvcfg = c.Mcountinhibit&5, c.Menvcfg&1
	for i := range 16 {
		c.Pmp.Cfg[i] = properByte(c.Pmp.Cfg[i])
		c.Pmp.Addr[i] &= 1<<54 - 1
	}
	if r := c.Res; !r.Valid || r.Size != 4 && r.Size != 8 || r.Addr%uint64(r.Size) != 0 {
		c.Res = api.Res{}
	}
	return c
}

func properByte(b uint8) uint8 {
	if b&3 == 2 {
		b &^= 2
	}
	return b & 0x9f
}

// whole is everything, as new memory.
func (m *machine) whole() api.Whole {
	w := api.Whole{Cpu: m.cpu, Bus: m.bus}
	w.Bus.Ram, w.Bus.Input, w.Bus.Output = bytes.Clone(m.bus.Ram), bytes.Clone(m.bus.Input), bytes.Clone(m.bus.Output)
	return w
}

// step is one step, as the section "One step" numbers it.
func (m *machine) step(w api.World) api.Row {
	m.steps++
	m.wrote = 0
	m.row = api.Row{Step: m.steps, Kind: 5, Mode: m.cpu.Mode, Pc: m.cpu.Pc, Next: m.cpu.Pc, NextMode: m.cpu.Mode}
	if m.bus.Off != 0 { // 1
		return m.row
	}
	m.comes(w) // 2
	inhibited := m.cpu.Mcountinhibit
	if m.cpu.Waiting && m.mip()&m.cpu.Mie == 0 { // 3
		m.row.Kind = 4
	} else {
		m.cpu.Waiting = false
		m.go4to6()
	}
	if bit(inhibited, 0) == 0 && m.wrote != 0xb00 { // 7
		m.cpu.Mcycle++
	}
	if m.row.Kind == 1 && bit(inhibited, 2) == 0 && m.wrote != 0xb02 {
		m.cpu.Minstret++
	}
	m.row.Next, m.row.NextMode = m.cpu.Pc, m.cpu.Mode
	return m.row
}

func (m *machine) comes(w api.World) {
	for _, b := range w.Input {
		if len(m.bus.Input) < 64 {
			m.bus.Input = append(m.bus.Input, b)
		} else {
			m.bus.Overrun = true
		}
	}
	m.bus.Ext, m.bus.Soft = w.Ext, w.Soft
	if w.Tick {
		m.bus.Mtime++
	}
}

func (m *machine) line() bool { return m.bus.Ier&1 == 1 && len(m.bus.Input) > 0 }

func (m *machine) mip() uint64 {
	v := uint64(0)
	if m.bus.Msip == 1 || m.bus.Soft {
		v |= 1 << 3
	}
	if m.bus.Mtime >= m.bus.Mtimecmp {
		v |= 1 << 7
	}
	if m.bus.Ext || m.line() {
		v |= 1 << 11
	}
	return v
}

// go4to6 is the interrupt, or else the instruction.
func (m *machine) go4to6() {
	if m.cpu.Mode == 0 || bit(m.cpu.Mstatus, 3) == 1 {
		for _, n := range []int{11, 3, 7} {
			if bit(m.mip()&m.cpu.Mie, n) == 1 {
				m.row.Kind = 3
				m.enter(1<<63+uint64(n), 0)
				return
			}
		}
	}
	if s := m.tried(); s != nil {
		m.row = api.Row{Step: m.steps, Kind: 2, Mode: m.cpu.Mode, Pc: m.cpu.Pc, Raw: m.row.Raw, Len: m.row.Len}
		m.enter(s.cause, s.tval)
		return
	}
	m.row.Kind = 1
}

// tried does the instruction at Pc; with an exception everything is as it was.
func (m *machine) tried() (s *stop) {
	was := m.whole()
	defer func() {
		if e := recover(); e != nil {
			is := e.(stop)
			s, m.cpu, m.bus, m.wrote = &is, was.Cpu, was.Bus, 0
		}
	}()
	raw := m.parcel(m.cpu.Pc)
	length := 2
	if raw&3 == 3 {
		raw |= m.parcel(m.cpu.Pc+2) << 16
		length = 4
	}
	m.row.Raw, m.row.Len = raw, length
	if length == 2 {
		long, is := spread(uint16(raw))
		if !is {
			panic(stop{2, uint64(raw)})
		}
		raw = long
	}
	m.do(raw, uint64(length))
	return nil
}

func (m *machine) enter(cause, tval uint64) {
	c := &m.cpu
	m.row.Cause, m.row.Tval = cause, tval
	c.Mepc, c.Mcause, c.Mtval = c.Pc, cause, tval
	c.Mstatus = c.Mstatus&^0x1888 | bit(c.Mstatus, 3)<<7 | uint64(c.Mode)<<11
	c.Mode, c.Waiting, c.Res = 3, false, api.Res{}
	c.Pc = c.Mtvec &^ 3
	if cause>>63 == 1 && c.Mtvec&1 == 1 {
		c.Pc += 4 * (cause &^ (1 << 63))
	}
}

// parcel is the two bytes at an address, fetched.
func (m *machine) parcel(addr uint64) uint32 {
	if !m.passes(m.cpu.Mode, addr, 2, 4) || !m.isRam(addr, 2) {
		panic(stop{1, addr})
	}
	return uint32(m.take(addr, 2))
}

// covers tells whether entry i's range has an address.
func (m *machine) covers(i int, addr uint64) bool {
	p := m.cpu.Pmp
	switch p.Cfg[i] >> 3 & 3 {
	case 1:
		from := uint64(0)
		if i > 0 {
			from = p.Addr[i-1] << 2
		}
		return from <= addr && addr < p.Addr[i]<<2
	case 2:
		return addr>>2 == p.Addr[i]
	case 3:
		n := 0
		for n < 54 && bit(p.Addr[i], n) == 1 {
			n++
		}
		return n == 54 || addr>>(n+3) == p.Addr[i]>>(n+1)
	}
	return false
}

// passes tells whether protection lets an access through.
func (m *machine) passes(mode int, addr uint64, size int, bits uint8) bool {
	for i := range 16 {
		n := 0
		for k := range size {
			if m.covers(i, addr+uint64(k)) {
				n++
			}
		}
		if n == size {
			own := m.cpu.Pmp.Cfg[i]
			return mode == 3 && own&0x80 == 0 || own&bits == bits
		}
		if n > 0 {
			return false
		}
	}
	return mode == 3
}

// effective is the mode of loads, stores and atomics.
func (m *machine) effective() int {
	if m.cpu.Mode == 3 && bit(m.cpu.Mstatus, 17) == 1 {
		return int(m.cpu.Mstatus >> 11 & 3)
	}
	return m.cpu.Mode
}

func (m *machine) isRam(addr uint64, size int) bool {
	return addr >= ram && addr-ram <= uint64(len(m.bus.Ram)-size)
}

// isDevice tells whether a device has an access.
func (m *machine) isDevice(addr uint64, size int) bool {
	switch size {
	case 1:
		return addr >= 0x10000000 && addr <= 0x10000007
	case 4:
		return slices.Contains([]uint64{0x100000, 0x2000000, 0x2004000, 0x2004004, 0x200bff8, 0x200bffc}, addr)
	case 8:
		return addr == 0x2004000 || addr == 0x200bff8
	}
	return false
}

// checks is what is asked ahead of a load, store or atomic; cause is that of a load's (4) or a store's (6) misalignment.
func (m *machine) checks(addr uint64, size int, bits uint8, cause uint64, atomic bool) {
	if addr%uint64(size) != 0 {
		panic(stop{cause, addr})
	}
	if !m.passes(m.effective(), addr, size, bits) || !m.isRam(addr, size) && (atomic || !m.isDevice(addr, size)) {
		panic(stop{cause + 1, addr})
	}
}

func (m *machine) take(addr uint64, size int) uint64 {
	v := uint64(0)
	for k := range size {
		v |= uint64(m.bus.Ram[addr-ram+uint64(k)]) << (8 * k)
	}
	return v
}

// put stores into RAM.
func (m *machine) put(addr uint64, size int, v uint64) {
	for k := range size {
		m.bus.Ram[addr-ram+uint64(k)] = byte(v >> (8 * k))
	}
}

// meets ends a reservation whose bytes a store meets, a device's too.
func (m *machine) meets(addr uint64, size int) {
	if r := m.cpu.Res; r.Valid && (addr-r.Addr < uint64(r.Size) || r.Addr-addr < uint64(size)) {
		m.cpu.Res = api.Res{}
	}
}

func (m *machine) load(addr uint64, size int) uint64 {
	b := &m.bus
	if m.isRam(addr, size) {
		return m.take(addr, size)
	}
	half := func(v uint64) uint64 {
		if size == 4 {
			return v >> (8 * (addr % 8)) & 0xffffffff
		}
		return v
	}
	switch addr &^ 7 {
	case 0x2000000:
		return uint64(b.Msip)
	case 0x2004000:
		return half(b.Mtimecmp)
	case 0x200bff8:
		return half(b.Mtime)
	case 0x10000000:
		return uint64(m.register(addr % 8))
	}
	return 0
}

// register is a load from the console.
func (m *machine) register(n uint64) uint8 {
	b := &m.bus
	switch n {
	case 0:
		if len(b.Input) == 0 {
			return 0
		}
		first := b.Input[0]
		b.Input = bytes.Clone(b.Input[1:])
		return first
	case 2:
		if m.line() {
			return 4
		}
		return 1
	case 5:
		v := uint8(0)
		if len(b.Input) > 0 {
			v++
		}
		if b.Overrun {
			v += 2
		}
		if len(b.Output) < 4096 {
			v += 96
		}
		b.Overrun = false
		return v
	}
	return [...]uint8{1: b.Ier, 3: b.Lcr, 4: b.Mcr, 7: b.Scratch}[n]
}

func (m *machine) store(addr uint64, size int, v uint64) {
	b := &m.bus
	if m.isRam(addr, size) {
		m.put(addr, size, v)
		return
	}
	half := func(old uint64) uint64 {
		if size == 8 {
			return v
		}
		at := 8 * (addr % 8)
		return old&^(0xffffffff<<at) | v&0xffffffff<<at
	}
	switch addr &^ 7 {
	case 0x100000:
		if low := v & 0xffff; b.Off == 0 && low == 0x5555 {
			b.Off = 1
		} else if b.Off == 0 && low == 0x3333 {
			b.Off, b.Code = 2, int(v>>16&0xffff)
		}
	case 0x2000000:
		b.Msip = uint32(v & 1)
	case 0x2004000:
		b.Mtimecmp = half(b.Mtimecmp)
	case 0x200bff8:
		b.Mtime = half(b.Mtime)
	case 0x10000000:
		m.setRegister(addr%8, uint8(v))
	}
}

// setRegister is a store to the console.
func (m *machine) setRegister(n uint64, v uint8) {
	b := &m.bus
	switch n {
	case 0:
		if len(b.Output) < 4096 {
			b.Output = append(b.Output, v)
		}
	case 1:
		b.Ier = v & 15
	case 2:
		if v&2 != 0 {
			b.Input = nil
		}
	case 3:
		b.Lcr = v
	case 4:
		b.Mcr = v & 31
	case 7:
		b.Scratch = v
	}
}
