package access_test

import (
	"testing"

	"anvil/api"
	"anvil/bus"
)

// The model: what the document says of an access, byte by byte. Of the program it takes the bus alone, as that which loads and stores once an access may be done.

// pick is the bits of v whose numbers are told, and no other.
func pick(v uint64, numbers ...int) uint64 {
	sum := uint64(0)
	for _, n := range numbers {
		if v>>n%2 == 1 {
			sum += 1 << n
		}
	}
	return sum
}

func modelProper(c api.Cpu) api.Cpu {
	d := api.Cpu{Waiting: c.Waiting}
	d.Pc = c.Pc / 2 * 2
	copy(d.X[1:], c.X[1:])
	if c.Mode == 3 {
		d.Mode = 3
	}
	d.Mstatus = pick(c.Mstatus, 3, 7, 17, 21) + 2*(1<<32)
	if c.Mstatus>>11%4 == 3 {
		d.Mstatus += 3 * (1 << 11)
	}
	d.Mtvec = c.Mtvec - pick(c.Mtvec, 1)
	d.Mie = pick(c.Mie, 3, 7, 11)
	d.Mcounteren = pick(c.Mcounteren, 0, 1, 2)
	d.Mcountinhibit = pick(c.Mcountinhibit, 0, 2)
	d.Menvcfg = pick(c.Menvcfg, 0)
	d.Mscratch, d.Mcause, d.Mtval, d.Mcycle, d.Minstret = c.Mscratch, c.Mcause, c.Mtval, c.Mcycle, c.Minstret
	d.Mepc = c.Mepc / 2 * 2
	for i := range 16 {
		b := c.Pmp.Cfg[i]
		if b%4 == 2 {
			b -= 2
		}
		d.Pmp.Cfg[i] = uint8(pick(uint64(b), 0, 1, 2, 3, 4, 7))
		d.Pmp.Addr[i] = c.Pmp.Addr[i] % (1 << 54)
	}
	if c.Res.Valid && (c.Res.Size == 4 && c.Res.Addr%4 == 0 || c.Res.Size == 8 && c.Res.Addr%8 == 0) {
		d.Res = c.Res
	}
	return d
}

// modelMode is the mode that counts for all but fetches.
func modelMode(c api.Cpu) int {
	if c.Mode == 3 && c.Mstatus>>17%2 == 1 {
		return int(c.Mstatus >> 11 % 4)
	}
	return c.Mode
}

// modelMeans tells whether a proper entry's range has a byte.
func modelMeans(p api.Pmp, i int, b uint64) bool {
	unit, addr := b/4, p.Addr[i]
	switch p.Cfg[i] / 8 % 4 {
	case 1:
		return unit < addr && (i == 0 || unit >= p.Addr[i-1])
	case 2:
		return unit == addr
	case 3:
		for n := range 54 {
			if addr>>n%2 == 0 {
				return unit>>(n+1) == addr>>(n+1)
			}
		}
		return true
	}
	return false
}

// modelMay tells whether protection lets an access of a proper Cpu pass.
func modelMay(p api.Pmp, mode int, addr uint64, size, bits int) bool {
	for i := range 16 {
		n := 0
		for k := range size {
			if modelMeans(p, i, addr+uint64(k)) {
				n++
			}
		}
		if n == 0 {
			continue
		}
		free := mode == 3 && p.Cfg[i] < 0x80
		return n == size && (free || int(p.Cfg[i])&bits == bits)
	}
	return mode == 3
}

// modelGranted tells whether U has one of the bits at a byte.
func modelGranted(p api.Pmp, b uint64, bits int) bool {
	for i := range 16 {
		if modelMeans(p, i, b) {
			return int(p.Cfg[i])&bits != 0
		}
	}
	return false
}

// modelRam tells whether all bytes are among so many bytes of RAM.
func modelRam(length int, addr uint64, size int) bool {
	for i := range uint64(size) {
		if addr+i < ram || addr+i > ram+uint64(length)-1 {
			return false
		}
	}
	return true
}

// modelDevice tells whether a device has a register of this size there.
func modelDevice(addr uint64, size int) bool {
	switch size {
	case 1:
		return addr >= console && addr <= console+7
	case 4:
		for _, a := range []uint64{finisher, msip, mtimecmp, mtimecmp + 4, mtime, mtime + 4} {
			if addr == a {
				return true
			}
		}
	case 8:
		return addr == mtimecmp || addr == mtime
	}
	return false
}

// meets tells whether one of the bytes is among those of the reservation.
func meets(r api.Res, addr uint64, size int) bool {
	for i := range uint64(size) {
		for k := range uint64(r.Size) {
			if r.Valid && addr+i == r.Addr+k {
				return true
			}
		}
	}
	return false
}

// modelAmo is what an AMO makes of old and v, and its size: 0, if it is none.
func modelAmo(op int, old, v uint64) (uint64, int) {
	place := -1
	for i, amo := range amos() {
		if amo == op {
			place = i
		}
	}
	if place < 0 {
		return 0, 0
	}
	size, a, b := 8, int64(old), int64(v)
	if place < 9 {
		size, a, b = 4, int64(int32(old)), int64(int32(v))
		old, v = old%(1<<32), v%(1<<32)
	}
	made := [9]uint64{v, old + v, old ^ v, old & v, old | v, uint64(min(a, b)), uint64(max(a, b)), min(old, v), max(old, v)}[place%9]
	if size == 4 {
		made %= 1 << 32
	}
	return made, size
}

// modelFetch is a Fetch of a proper Cpu.
func modelFetch(c api.Cpu, b *bus.Bus) answer {
	length := len(b.State().Ram)
	var parts [2]uint64
	for i := range parts {
		addr := c.Pc + uint64(2*i)
		if !modelMay(c.Pmp, c.Mode, addr, 2, 4) || !modelRam(length, addr, 2) {
			return answer{trap: trap(1, addr)}
		}
		parts[i], _ = b.Load(addr, 2)
		if parts[0]%4 != 3 {
			break
		}
	}
	if parts[0]%4 != 3 {
		return answer{number: parts[0], length: 2}
	}
	return answer{number: parts[1]*65536 + parts[0], length: 4}
}

// modelStop is the trap of all calls but Fetch, or none.
func modelStop(k call, c api.Cpu, b *bus.Bus) api.Trap {
	size, bits, causes, atomic := k.size, 2, [2]uint64{6, 7}, true
	switch k.name {
	case "Load":
		bits, causes, atomic = 1, [2]uint64{4, 5}, false
	case "Reserve":
		bits, causes = 1, [2]uint64{4, 5}
	case "Store":
		atomic = false
	case "Amo":
		bits = 3
		_, size = modelAmo(k.size, 0, 0)
		if size == 0 {
			return trap(2, 0)
		}
	}
	allowed := size == 4 || size == 8 || !atomic && (size == 1 || size == 2)
	if !allowed || k.addr%uint64(size) != 0 {
		return trap(causes[0], k.addr)
	}
	is := modelRam(len(b.State().Ram), k.addr, size) || !atomic && modelDevice(k.addr, size)
	if !is || !modelMay(c.Pmp, modelMode(c), k.addr, size, bits) {
		return trap(causes[1], k.addr)
	}
	return api.Trap{}
}

// model is what a call must answer; the bus is changed as it must be.
func (k call) model(c api.Cpu, b *bus.Bus) answer {
	c = modelProper(c)
	if k.name == "Fetch" {
		return modelFetch(c, b)
	}
	a := answer{cpu: c, trap: modelStop(k, c, b)}
	if !a.trap.Is {
		k.modelDone(&a, b)
	}
	if !k.givesCpu() {
		a.cpu = api.Cpu{}
	}
	return a
}

// modelDone is a call that does not trap.
func (k call) modelDone(a *answer, b *bus.Bus) {
	size := k.size
	r := a.cpu.Res
	switch k.name {
	case "Load":
		a.number, _ = b.Load(k.addr, k.size)
	case "Store":
		b.Store(k.addr, k.size, k.v)
	case "Reserve":
		a.number, _ = b.Load(k.addr, k.size)
		a.cpu.Res = api.Res{Valid: true, Addr: k.addr, Size: k.size}
	case "Conditional":
		a.done = r.Valid && r.Addr == k.addr && r.Size == k.size
		if a.done {
			b.Store(k.addr, k.size, k.v)
		}
		a.cpu.Res = api.Res{}
	case "Amo":
		_, size = modelAmo(k.size, 0, 0)
		a.number, _ = b.Load(k.addr, size)
		a.stored, _ = modelAmo(k.size, a.number, k.v)
		b.Store(k.addr, size, a.stored)
	}
	if (k.name == "Store" || k.name == "Amo") && meets(r, k.addr, size) {
		a.cpu.Res = api.Res{}
	}
}

// asModel does a call on a bus of this state, and holds all that it answers and the bus behind it against the model.
func asModel(t *testing.T, k call, c api.Cpu, s api.Bus) answer {
	t.Helper()
	b, twin := of(t, s), of(t, s)
	got, want := k.do(c, b), k.model(c, twin)
	if got != want {
		t.Fatalf("%v of %+v answers\n%+v, want\n%+v", k, c, got, want)
	}
	if !sameState(b.State(), twin.State()) {
		t.Fatalf("%v of %+v: the bus is\n%+v, want\n%+v", k, c, b.State(), twin.State())
	}
	return got
}
