package access_test

import (
	"testing"

	"anvil/api"
	"anvil/bus"
)

// fetches holds that a Fetch at pc answers this raw and length, and changes nothing.
func fetches(t *testing.T, c api.Cpu, b *bus.Bus, pc, raw uint64, length int) {
	t.Helper()
	was := b.State()
	gives(t, call{name: "Fetch"}, at(c, pc), b, answer{number: raw, length: length}, api.Res{})
	if !sameState(was, b.State()) {
		t.Errorf("a Fetch at %#x changes the bus", pc)
	}
}

func fetchStops(t *testing.T, c api.Cpu, b *bus.Bus, pc, tval uint64) {
	t.Helper()
	stops(t, call{name: "Fetch"}, at(c, pc), b, 1, tval)
}

// filled is a bus whose RAM begins with these parcels; all else is 0.
func filled(t *testing.T, size int, parcels ...uint16) *bus.Bus {
	t.Helper()
	s := api.Bus{Ram: make([]byte, size)}
	for i, p := range parcels {
		s.Ram[2*i], s.Ram[2*i+1] = byte(p), byte(p>>8)
	}
	return of(t, s)
}

// TestB1Length: the low two bits tell the length, and no other bit does.
func TestB1Length(t *testing.T) {
	for n := range 1 << 16 {
		low := uint16(n)
		b := filled(t, 8, low, ^low)
		if n%4 == 3 {
			gives(t, call{name: "Fetch"}, at(machine(), ram), b, answer{number: uint64(^low)<<16 | uint64(low), length: 4}, api.Res{})
		} else {
			gives(t, call{name: "Fetch"}, at(machine(), ram), b, answer{number: uint64(low), length: 2}, api.Res{})
		}
	}
}

// TestB1Parcels: at every parcel, those that no multiple of 4 begins too; an odd Pc is the even one below it.
func TestB1Parcels(t *testing.T) {
	b := filled(t, 16, 0x0093, 0x4501, 0x8067, 0xffff, 0x1234, 0xfffe, 0x0003, 0x0001)
	for odd := range uint64(2) {
		fetches(t, machine(), b, ram+odd, 0x45010093, 4)
		fetches(t, machine(), b, ram+2+odd, 0x4501, 2)
		fetches(t, machine(), b, ram+4+odd, 0xffff8067, 4)
		fetches(t, machine(), b, ram+6+odd, 0x1234ffff, 4)
		fetches(t, machine(), b, ram+8+odd, 0x1234, 2)
		fetches(t, machine(), b, ram+10+odd, 0xfffe, 2)
		fetches(t, machine(), b, ram+12+odd, 0x00010003, 4)
		fetches(t, machine(), b, ram+14+odd, 0x0001, 2)
	}
}

// TestB1End: the last parcel of RAM may be a short instruction, and no long one; around RAM nothing is fetched.
func TestB1End(t *testing.T) {
	short := filled(t, 8, 3, 3, 3, 0xfffe)
	long := filled(t, 8, 2, 2, 2, 0xffff)
	fetches(t, machine(), short, ram+4, 0xfffe0003, 4)
	fetches(t, machine(), short, ram+6, 0xfffe, 2)
	fetchStops(t, machine(), long, ram+6, ram+8)
	fetchStops(t, machine(), long, ram+7, ram+8)
	for _, b := range []*bus.Bus{short, long} {
		for _, pc := range []uint64{ram + 8, ram + 10, ram - 2, ram - 4, 0, 2, 1 << 63, 1<<32 + ram, last - 1, last - 3} {
			fetchStops(t, machine(), b, pc, pc)
			fetchStops(t, machine(), b, pc+1, pc)
			fetchStops(t, user(7), b, pc, pc)
		}
	}
}

// TestB1Devices: devices are no RAM, whoever asks.
func TestB1Devices(t *testing.T) {
	b := of(t, rich(8))
	for _, pc := range []uint64{finisher, msip, mtimecmp, mtimecmp + 4, mtime, mtime + 4, console, console + 4, console + 6} {
		fetchStops(t, machine(), b, pc, pc)
		fetchStops(t, user(7), b, pc, pc)
	}
}

// TestB1Granted: X counts for each parcel by itself, and neither R nor W does.
func TestB1Granted(t *testing.T) {
	b := filled(t, 16, 1, 3, 5, 7, 9, 3, 5, 7)
	for bits := range uint8(8) {
		if bits&4 != 0 {
			fetches(t, user(bits), b, ram, 1, 2)
			fetches(t, user(bits), b, ram+2, 0x50003, 4)
		} else {
			fetchStops(t, user(bits), b, ram, ram)
			fetchStops(t, user(bits), b, ram+2, ram+2)
		}
	}
	four := with(api.Cpu{}, 0, 0x14, ram/4)
	fetches(t, four, b, ram, 1, 2)
	fetchStops(t, four, b, ram+2, ram+4)
	fetchStops(t, four, b, ram+4, ram+4)
	fetchStops(t, api.Cpu{}, b, ram, ram)
	two := with(four, 1, 0x14, ram/4+1)
	fetches(t, two, b, ram+2, 0x50003, 4)
	fetchStops(t, two, b, ram+6, ram+8)
	read := with(four, 1, 0x13, ram/4+1)
	fetchStops(t, read, b, ram+2, ram+4)
	second := with(api.Cpu{}, 0, 0x14, ram/4+1)
	fetchStops(t, second, b, ram+2, ram+2)
}

// TestB1Mode: the mode is Mode itself, whatever MPRV and MPP say; locks hold in M too.
func TestB1Mode(t *testing.T) {
	b := filled(t, 8, 3, 5)
	for _, before := range []uint64{0, 3} {
		fetches(t, borrowed(api.Cpu{}, before), b, ram, 0x50003, 4)
		fetches(t, borrowed(user(3), before), b, ram, 0x50003, 4)
		fetchStops(t, borrowed(user(0x83), before), b, ram, ram)
		fetches(t, borrowed(user(0x84), before), b, ram, 0x50003, 4)
	}
	c := borrowed(user(3), 3)
	c.Mode = api.U
	fetchStops(t, c, b, ram, ram)
	part := with(machine(), 0, 0x93, ram/4)
	fetchStops(t, part, b, ram, ram)
	fetches(t, part, b, ram+4, 0, 2)
}
