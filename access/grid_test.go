package access_test

import (
	"math/rand/v2"
	"testing"

	"anvil/api"
	"anvil/bus"
)

const little = 32

// modesOf is a Cpu in M, in U, in M with MPRV and each MPP (those that are no mode too), and in modes that are none.
func modesOf(c api.Cpu) []api.Cpu {
	var all []api.Cpu
	for _, mode := range []int{3, 0, 1, 2, 7, -1} {
		for _, status := range []uint64{0, mpp, mprv, mprv | 1<<11, mprv | 2<<11, mprv | mpp} {
			if mode != 3 && mode != 0 && status != mprv|mpp {
				continue
			}
			c.Mode, c.Mstatus = mode, status
			all = append(all, c)
		}
	}
	return all
}

// guards is entries of protection: none; over all with every set of bits (those that cannot be too), open and locked; and such as hold a part of what is asked alone.
func guards(size int) []api.Cpu {
	end := uint64(ram + size)
	all := []api.Cpu{{}}
	for bits := range uint8(8) {
		all = append(all, user(bits), user(0x80|bits), user(0x60|bits))
	}
	for _, bits := range []uint8{0x7, 0x87, 0x1, 0x84} {
		for _, four := range []uint64{ram, ram + 4, end - 4, msip, mtimecmp, mtime + 4, finisher, console} {
			all = append(all, with(api.Cpu{}, 3, 0x10|bits, four/4), with(user(0x7), 0, 0x10|bits, four/4))
			all = append(all, with(with(api.Cpu{}, 0, 0x10|bits, four/4), 1, 0x1f, 1<<54-1))
		}
		all = append(all, with(api.Cpu{}, 0, 0x8|bits, ram/4+1), with(api.Cpu{}, 0, 0x8|bits, end/4-1))
		all = append(all, with(with(api.Cpu{}, 4, 0, ram/4+1), 5, 0x8|bits, end/4-1))
		all = append(all, with(api.Cpu{}, 15, 0x18|bits, ram/4), with(api.Cpu{}, 15, 0x18|bits, end/4-2))
		all = append(all, with(api.Cpu{}, 0, 0x18|bits, 1<<53-1), with(api.Cpu{}, 0, 0x18|bits, last))
	}
	return all
}

// TestB2To5Everywhere: each call with every size, at every address that an edge is near, in every mode.
func TestB2To5Everywhere(t *testing.T) {
	s := rich(little)
	for _, guard := range []api.Cpu{{}, user(0x7), user(0x81), with(user(0x7), 0, 0x17, ram/4)} {
		for _, c := range modesOf(guard) {
			for _, addr := range addresses(little) {
				for _, size := range sizes() {
					for _, name := range []string{"Load", "Store", "Reserve", "Conditional"} {
						asModel(t, call{name, addr, size, 0xa5b6c7d8e9fa0b1c}, holding(c, addr&^7, 8), s)
					}
				}
			}
		}
	}
}

// TestB6Everywhere: each AMO at every address that an edge is near, in every mode.
func TestB6Everywhere(t *testing.T) {
	s := rich(little)
	for _, guard := range []api.Cpu{{}, with(user(0x7), 0, 0x17, ram/4)} {
		for _, c := range modesOf(guard) {
			for _, addr := range addresses(little) {
				for _, op := range amos() {
					asModel(t, call{"Amo", addr, op, 0xa5b6c7d8e9fa0b1c}, holding(c, addr&^3, 4), s)
				}
			}
		}
	}
}

// TestB1To6Guards: each call under every kind of protection, in every mode.
func TestB1To6Guards(t *testing.T) {
	s := rich(little)
	for _, guard := range guards(little) {
		for _, c := range modesOf(guard) {
			for _, addr := range []uint64{
				ram, ram + 4, ram + 8, ram + little - 8, ram + little - 4, ram + little, ram - 4,
				finisher, msip, mtimecmp, mtimecmp + 4, mtime, mtime + 4, console, console + 4, 0, last - 7,
			} {
				for _, name := range names()[:4] {
					for _, size := range []int{1, 4, 8} {
						asModel(t, call{name, addr, size, 0x15555}, holding(c, addr, 4), s)
					}
				}
				asModel(t, call{"Amo", addr, api.OpAmoaddW, 0xfedcba98}, c, s)
				asModel(t, call{"Amo", addr, api.OpAmoxorD, last}, c, s)
				for back := range uint64(4) {
					asModel(t, call{name: "Fetch"}, at(c, addr-back), s)
				}
			}
		}
	}
}

// words is the numbers of 64 bits that a Cpu has.
func words(c *api.Cpu) []*uint64 {
	all := []*uint64{
		&c.Pc, &c.Mstatus, &c.Mtvec, &c.Mie, &c.Mcounteren, &c.Mcountinhibit, &c.Menvcfg,
		&c.Mscratch, &c.Mepc, &c.Mcause, &c.Mtval, &c.Mcycle, &c.Minstret,
	}
	for i := range c.X {
		all = append(all, &c.X[i])
	}
	for i := range c.Pmp.Addr {
		all = append(all, &c.Pmp.Addr[i])
	}
	return all
}

// somewhere is an address, mostly near RAM's ends or a device.
func somewhere(r *rand.Rand, size int) uint64 {
	switch r.IntN(8) {
	case 0:
		return addresses(size)[r.IntN(160)]
	case 1:
		return r.Uint64() >> r.IntN(64)
	case 2, 3:
		return [...]uint64{finisher, msip, mtimecmp, mtimecmp + 4, mtime, mtime + 4, console, console + uint64(r.IntN(8))}[r.IntN(8)]
	}
	addr := ram + uint64(r.IntN(size+8))
	if r.IntN(3) > 0 {
		addr &^= 7
	}
	return addr
}

// anyCpu is a Cpu of any bits, those that cannot be too, whose Pc, entries and reservation are mostly near something.
func anyCpu(r *rand.Rand, size int) api.Cpu {
	c := api.Cpu{Mode: r.IntN(5) - 1, Waiting: r.IntN(2) == 0}
	if r.IntN(2) == 0 {
		c.Mode = api.M
	}
	for _, w := range words(&c) {
		*w = r.Uint64()
	}
	for i := range c.Pmp.Cfg {
		if r.IntN(3) == 0 {
			c.Pmp.Cfg[i] = uint8(r.Uint32())
		}
		if r.IntN(3) > 0 {
			c.Pmp.Addr[i] = somewhere(r, size)/4 | 1<<r.IntN(6) - 1
		}
		if r.IntN(8) == 0 {
			c.Pmp.Addr[i] = last
		}
	}
	if r.IntN(2) == 0 {
		c = with(c, r.IntN(3), 0x18|uint8(r.IntN(8)), last)
	}
	if r.IntN(4) > 0 {
		c.Pc = somewhere(r, size)
	}
	if r.IntN(3) > 0 {
		width := 4 << r.IntN(2)
		c.Res = api.Res{Valid: r.IntN(8) > 0, Addr: somewhere(r, size) &^ uint64(width-1), Size: width}
	} else if r.IntN(3) == 0 {
		c.Res = api.Res{Valid: true, Addr: somewhere(r, size), Size: r.IntN(10)}
	}
	return c
}

// anyCall is a call, mostly of a size that may be.
func anyCall(r *rand.Rand, size int) call {
	k := call{name: names()[r.IntN(5)], addr: somewhere(r, size), size: 1 << r.IntN(4), v: r.Uint64()}
	switch {
	case k.name == "Amo" && r.IntN(10) > 0:
		k.size = amos()[r.IntN(18)]
	case r.IntN(12) == 0:
		k.size = sizes()[r.IntN(len(sizes()))]
	case r.IntN(6) == 0:
		k = call{name: "Fetch"}
	}
	return k
}

// TestProperAny: each call, of a Cpu of any bits: it is made proper first.
func TestProperAny(t *testing.T) {
	r := random(1)
	for range 60000 {
		s := rich(little)
		for i := range s.Ram {
			s.Ram[i] = byte(r.Uint32())
		}
		asModel(t, anyCall(r, little), anyCpu(r, little), s)
	}
}

// TestProperFirst: a call on a Cpu is the call on the proper one, and a Cpu that is answered is proper.
func TestProperFirst(t *testing.T) {
	r := random(2)
	for range 20000 {
		c, k := anyCpu(r, little), anyCall(r, little)
		b, twin := of(t, rich(little)), of(t, rich(little))
		got, want := k.do(c, b), k.do(modelProper(c), twin)
		if got != want || !sameState(b.State(), twin.State()) {
			t.Fatalf("%v of %+v answers\n%+v, of the proper one\n%+v", k, c, got, want)
		}
		if k.givesCpu() && got.cpu != modelProper(got.cpu) {
			t.Fatalf("%v of %+v answers a Cpu that is not proper:\n%+v", k, c, got.cpu)
		}
	}
}

// TestProperParts: what is made proper counts: an odd Pc, W without R, bits beyond an entry's, an MPP that is no mode, a reservation that cannot be.
func TestProperParts(t *testing.T) {
	b := of(t, rich(little))
	raw, _ := b.Load(ram, 4)
	gives(t, call{name: "Fetch"}, at(machine(), ram+1), b, answer{number: raw & 0xffff, length: 2}, api.Res{})
	stops(t, call{"Store", ram, 4, 1}, user(2), b, 7, ram)
	stops(t, call{name: "Fetch"}, at(user(3), ram+9), b, 1, ram+8)
	gives(t, call{name: "Fetch"}, at(user(6), ram), b, answer{number: raw & 0xffff, length: 2}, api.Res{})
	stops(t, call{"Load", ram, 4, 0}, with(user(1), 0, 0x71, (ram+4)/4|1<<60), b, 5, ram)
	loads(t, call{"Load", ram, 4, 0}, with(user(1), 0, 0x71, ram/4|1<<60), b, raw)
	for _, before := range []uint64{1, 2} {
		stops(t, call{"Load", ram, 4, 0}, borrowed(user(4), before), b, 5, ram)
	}
	for _, res := range []api.Res{{Valid: true, Addr: ram, Size: 2}, {Valid: true, Addr: ram + 4, Size: 8}, {Addr: ram, Size: 4}} {
		c := machine()
		c.Res = res
		for _, k := range []call{{"Store", ram + 24, 1, 0}, {"Conditional", res.Addr, 4, 7}, {"Amo", ram + 24, api.OpAmoorW, 0}} {
			if d := k.do(c, b).cpu; d.Res != (api.Res{}) {
				t.Errorf("%v with the reservation %+v leaves %+v", k, res, d.Res)
			}
		}
		stops(t, call{"Load", 0, 4, 0}, c, b, 5, 0)
	}
	there(t, b, ram, 4, raw)
}

// TestRuns: calls behind one another on one bus, each of the Cpu that the one before answered, are as the model's.
func TestRuns(t *testing.T) {
	r := random(3)
	for range 400 {
		c := anyCpu(r, little)
		b, twin := of(t, rich(little)), of(t, rich(little))
		for range 60 {
			k := anyCall(r, little)
			c.Pc = somewhere(r, little)
			c = oneOfRun(t, k, c, b, twin)
		}
	}
}

func oneOfRun(t *testing.T, k call, c api.Cpu, b, twin *bus.Bus) api.Cpu {
	t.Helper()
	got, want := k.do(c, b), k.model(c, twin)
	if got != want || !sameState(b.State(), twin.State()) {
		t.Fatalf("%v of %+v answers\n%+v, want\n%+v; the bus is\n%+v, want\n%+v", k, c, got, want, b.State(), twin.State())
	}
	if k.givesCpu() {
		return got.cpu
	}
	return c
}
