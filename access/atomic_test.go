package access_test

import (
	"testing"

	"anvil/api"
)

// TestB4Reserve: the number as it is, and the reservation, whatever it was.
func TestB4Reserve(t *testing.T) {
	b := eight(t)
	was := b.State()
	for _, c := range []api.Cpu{machine(), user(1), borrowed(user(1), 0), borrowed(user(0), 3)} {
		for _, c := range []api.Cpu{c, holding(c, ram, 8), holding(c, ram+4, 4), holding(c, 0, 4)} {
			gives(t, call{"Reserve", ram, 4, 0}, c, b, answer{number: 0xc4332211}, api.Res{Valid: true, Addr: ram, Size: 4})
			gives(t, call{"Reserve", ram + 4, 4, 0}, c, b, answer{number: 0x8877e655}, api.Res{Valid: true, Addr: ram + 4, Size: 4})
			gives(t, call{"Reserve", ram + 8, 8, 0}, c, b, answer{number: 0x80ffeeddccbbaa99}, api.Res{Valid: true, Addr: ram + 8, Size: 8})
		}
	}
	if !sameState(was, b.State()) {
		t.Errorf("the bus is %+v behind Reserves", b.State())
	}
}

// TestB4Stops: by size and alignment, by R, and where RAM is not.
func TestB4Stops(t *testing.T) {
	b := of(t, rich(little))
	for _, c := range []api.Cpu{holding(machine(), ram, 8), {}, user(7)} {
		for i := range uint64(9) {
			for _, size := range sizes() {
				if size != 4 && size != 8 || i%uint64(size) != 0 {
					stops(t, call{"Reserve", ram + i, size, 0}, c, b, 4, ram+i)
					stops(t, call{"Reserve", i, size, 0}, c, b, 4, i)
					stops(t, call{"Conditional", ram + i, size, 0}, c, b, 6, ram+i)
					stops(t, call{"Conditional", last - 15 + i, size, 0}, c, b, 6, last-15+i)
				}
			}
		}
	}
	for _, c := range []api.Cpu{{}, user(0), user(4), user(0x80), borrowed(user(4), 0), with(machine(), 2, 0x94, ram/4)} {
		stops(t, call{"Reserve", ram, 4, 0}, c, b, 5, ram)
	}
	stops(t, call{"Reserve", ram, 8, 0}, with(machine(), 2, 0x17, ram/4+1), b, 5, ram)
	for _, addr := range nowhere() {
		for _, c := range []api.Cpu{machine(), user(7)} {
			stops(t, call{"Reserve", addr, 4, 0}, c, b, 5, addr)
			stops(t, call{"Conditional", addr, 4, 9}, holding(c, addr, 4), b, 7, addr)
			if addr%8 == 0 {
				stops(t, call{"Reserve", addr, 8, 0}, c, b, 5, addr)
				stops(t, call{"Conditional", addr, 8, 9}, holding(c, addr, 8), b, 7, addr)
			}
		}
	}
}

// nowhere is where an atomic finds nothing: the devices, around RAM of little bytes, and the ends of the address space.
func nowhere() []uint64 {
	return []uint64{
		finisher, msip, mtimecmp, mtimecmp + 4, mtime, mtime + 4, console, console + 4,
		ram - 8, ram - 4, ram + little, ram + little + 4, 0, 1 << 63, 1<<32 + ram, last - 7, last - 3,
	}
}

// TestB5Stores: with just this reservation it stores the lower bytes; a second one does not.
func TestB5Stores(t *testing.T) {
	for _, c := range []api.Cpu{machine(), user(3), borrowed(user(3), 0), borrowed(user(0), 3)} {
		b := eight(t)
		d := gives(t, call{"Conditional", ram + 4, 4, 0x1ffffff05}, holding(c, ram+4, 4), b, answer{done: true}, api.Res{})
		there(t, b, ram, 8, 0xffffff05c4332211)
		there(t, b, ram+8, 8, 0x80ffeeddccbbaa99)
		gives(t, call{"Conditional", ram + 4, 4, 6}, d, b, answer{}, api.Res{})
		there(t, b, ram, 8, 0xffffff05c4332211)
		gives(t, call{"Conditional", ram + 8, 8, 0xfedcba9876543210}, holding(c, ram+8, 8), b, answer{done: true}, api.Res{})
		there(t, b, ram+8, 8, 0xfedcba9876543210)
		there(t, b, ram, 8, 0xffffff05c4332211)
	}
}

// TestB5Other: with none, or one of another address or size, nothing is stored; the reservation ends all the same.
func TestB5Other(t *testing.T) {
	b := eight(t)
	was := b.State()
	for _, k := range []call{{"Conditional", ram, 4, 9}, {"Conditional", ram + 4, 4, 9}, {"Conditional", ram, 8, 9}, {"Conditional", ram + 8, 8, 9}} {
		gives(t, k, machine(), b, answer{}, api.Res{})
		for _, res := range []api.Res{
			{Valid: true, Addr: ram, Size: 4}, {Valid: true, Addr: ram + 4, Size: 4}, {Valid: true, Addr: ram, Size: 8}, {Valid: true, Addr: ram + 8, Size: 8},
			{Valid: true, Addr: ram + 12, Size: 4}, {Valid: true, Addr: ram - 8, Size: 8}, {Valid: true, Addr: 1<<32 + ram, Size: 4}, {Valid: true, Size: 4},
		} {
			if res.Addr != k.addr || res.Size != k.size {
				gives(t, k, holding(machine(), res.Addr, res.Size), b, answer{}, api.Res{})
			}
		}
	}
	if !sameState(was, b.State()) {
		t.Errorf("RAM is %x", b.State().Ram)
	}
}

// TestB5Stops: W is asked whatever the reservation is, and a trap leaves it.
func TestB5Stops(t *testing.T) {
	b := eight(t)
	for _, bits := range []uint8{0, 1, 4, 5} {
		for _, c := range []api.Cpu{user(bits), user(0x80 | bits), borrowed(user(bits), 0), borrowed(user(0x80|bits), 3)} {
			for _, c := range []api.Cpu{c, holding(c, ram, 4), holding(c, ram+8, 8)} {
				stops(t, call{"Conditional", ram, 4, 9}, c, b, 7, ram)
			}
		}
		gives(t, call{"Conditional", ram, 4, 0xc4332211}, holding(borrowed(user(bits), 3), ram, 4), b, answer{done: true}, api.Res{})
	}
	stops(t, call{"Conditional", ram, 8, 9}, holding(with(machine(), 0, 0x17, ram/4), ram, 8), b, 7, ram)
	stops(t, call{"Conditional", ram + 4, 8, 9}, holding(machine(), ram, 8), b, 6, ram+4)
	stops(t, call{"Conditional", ram, 2, 9}, holding(machine(), ram, 4), b, 6, ram)
}

// TestB5Behind: behind a store, an AMO or a Reserve elsewhere nothing is stored; behind what did not meet it, it is.
func TestB5Behind(t *testing.T) {
	for _, one := range []struct {
		k    call
		done bool
	}{
		{call{"Store", ram + 7, 1, 0}, false}, {call{"Store", ram, 1, 0}, false}, {call{"Store", ram, 8, 0}, false}, {call{"Store", ram + 8, 1, 0}, true},
		{call{"Amo", ram, api.OpAmoorW, 0}, false}, {call{"Amo", ram + 4, api.OpAmoorW, 0}, false}, {call{"Amo", ram + 8, api.OpAmoorD, 0}, true},
		{call{"Reserve", ram, 4, 0}, false}, {call{"Reserve", ram + 8, 8, 0}, false}, {call{"Reserve", ram, 8, 0}, true},
		{call{"Conditional", ram + 8, 8, 0}, false}, {call{"Store", ram + 1, 2, 0}, true}, {call{"Amo", ram + 4, api.OpAmoorD, 0}, true},
		{call{"Reserve", ram + 1, 4, 0}, true}, {call{"Conditional", msip, 4, 0}, true},
	} {
		b := eight(t)
		c := call{"Reserve", ram, 8, 0}.do(machine(), b).cpu
		c = one.k.do(c, b).cpu
		gives(t, call{"Conditional", ram, 8, 0x123456789}, c, b, answer{done: one.done}, api.Res{})
		if v, _ := b.Load(ram, 8); (v == 0x123456789) != one.done {
			t.Errorf("behind %v: %#x is there", one.k, v)
		}
	}
}

// TestB6Operations: each of the eighteen of an old number whose sign is set and a v above it and below it, written out.
func TestB6Operations(t *testing.T) {
	const old, v = 0xfedcba98f0000003, 0x123456787000000c
	for _, one := range []struct {
		op   int
		want uint64
	}{
		{api.OpAmoswapW, 0x7000000c}, {api.OpAmoaddW, 0x6000000f}, {api.OpAmoxorW, 0x8000000f}, {api.OpAmoandW, 0x70000000}, {api.OpAmoorW, 0xf000000f},
		{api.OpAmominW, 0xf0000003}, {api.OpAmomaxW, 0x7000000c}, {api.OpAmominuW, 0x7000000c}, {api.OpAmomaxuW, 0xf0000003},
		{api.OpAmoswapD, v}, {api.OpAmoaddD, 0x111111116000000f}, {api.OpAmoxorD, 0xece8ece08000000f}, {api.OpAmoandD, 0x1214121870000000}, {api.OpAmoorD, 0xfefcfef8f000000f},
		{api.OpAmominD, old}, {api.OpAmomaxD, v}, {api.OpAmominuD, v}, {api.OpAmomaxuD, old},
	} {
		for _, c := range []api.Cpu{machine(), user(3), borrowed(user(7), 0), borrowed(user(0), 3)} {
			b := of(t, rich(little))
			b.Store(ram+8, 8, old)
			was := b.State()
			number, left := uint64(old), one.want
			if one.want < 1<<32 {
				number, left = old&0xffffffff, old&^uint64(0xffffffff)|one.want
			}
			gives(t, call{"Amo", ram + 8, one.op, v}, c, b, answer{number: number, stored: one.want}, api.Res{})
			there(t, b, ram+8, 8, left)
			b.Store(ram+8, 8, old)
			if !sameState(was, b.State()) {
				t.Errorf("operation %d changes more than its own bytes", one.op)
			}
		}
	}
}

// TestB6Halves: of 4 bytes old and what was stored are numbers below 2^32, also where bit 31 is set; v's upper half counts nothing.
func TestB6Halves(t *testing.T) {
	for _, op := range amos()[:9] {
		for _, old := range []uint64{0, 1, 0x7fffffff, 0x80000000, 0x80000001, 0xffffffff} {
			for _, v := range []uint64{0, 1, 0x7fffffff, 0x80000000, 0xffffffff, 0xffffffff80000000, 0x1_00000000, last} {
				b := of(t, rich(little))
				b.Store(ram+4, 4, old)
				want, _ := modelAmo(op, old, v)
				gives(t, call{"Amo", ram + 4, op, v}, machine(), b, answer{number: old, stored: want}, api.Res{})
				there(t, b, ram+4, 4, want)
				there(t, b, ram, 4, 0xdbe2e9f0)
				there(t, b, ram+8, 4, 0xa3aab1b8)
			}
		}
	}
}

// TestB6None: what is no AMO is told ahead of all else.
func TestB6None(t *testing.T) {
	b := of(t, rich(little))
	for _, op := range noAmos() {
		for _, c := range []api.Cpu{machine(), {}, holding(user(3), ram, 8)} {
			for _, addr := range []uint64{ram, ram + 1, msip, 0, last} {
				stops(t, call{"Amo", addr, op, 1}, c, b, 2, 0)
			}
		}
	}
}

// TestB6Stops: by alignment, by R and W together, and where RAM is not.
func TestB6Stops(t *testing.T) {
	b := of(t, rich(little))
	for i, op := range amos() {
		size := uint64(4)
		if i >= 9 {
			size = 8
		}
		for n := range uint64(9) {
			if n%size != 0 {
				stops(t, call{"Amo", ram + n, op, 1}, machine(), b, 6, ram+n)
				stops(t, call{"Amo", n, op, 1}, api.Cpu{}, b, 6, n)
			}
		}
		for _, bits := range []uint8{0, 1, 2, 4, 5, 6} {
			for _, c := range []api.Cpu{user(bits), user(0x80 | bits), borrowed(user(bits), 0), borrowed(user(0x80|bits), 3)} {
				stops(t, call{"Amo", ram, op, 1}, holding(c, ram, 4), b, 7, ram)
			}
		}
		stops(t, call{"Amo", ram, op, 1}, api.Cpu{}, b, 7, ram)
		for _, addr := range nowhere() {
			if addr%size == 0 {
				stops(t, call{"Amo", addr, op, 1}, machine(), b, 7, addr)
				stops(t, call{"Amo", addr, op, 1}, user(7), b, 7, addr)
			}
		}
		part := with(machine(), 0, 0x17, ram/4)
		if size == 8 {
			stops(t, call{"Amo", ram, op, 1}, part, b, 7, ram)
		}
	}
}

// TestB6Res: an AMO that meets a byte of the reservation ends it, also one that stores what was there.
func TestB6Res(t *testing.T) {
	for _, res := range []api.Res{{Valid: true, Addr: ram + 8, Size: 4}, {Valid: true, Addr: ram + 12, Size: 4}, {Valid: true, Addr: ram + 8, Size: 8}} {
		for _, op := range []int{api.OpAmoorW, api.OpAmoorD} {
			size := 4
			if op == api.OpAmoorD {
				size = 8
			}
			for i := 0; i < little; i += size {
				b := of(t, rich(little))
				v, _ := b.Load(ram+uint64(i), size)
				left := res
				if i < int(res.Addr-ram)+res.Size && i+size > int(res.Addr-ram) {
					left = api.Res{}
				}
				gives(t, call{"Amo", ram + uint64(i), op, 0}, holding(machine(), res.Addr, res.Size), b, answer{number: v, stored: v}, left)
			}
		}
	}
}
