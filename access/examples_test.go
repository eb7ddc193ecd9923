package access_test

import (
	"testing"

	"anvil/api"
)

// The examples of section 11.5, by their numbers.

func TestExample1OfAccess(t *testing.T) {
	b := blank(t)
	stops(t, call{"Load", 0x80000001, 2, 0}, machine(), b, 4, 0x80000001)
	stops(t, call{"Load", 0x80000ffc, 8, 0}, machine(), b, 4, 0x80000ffc)
	stops(t, call{"Load", 0x80001000, 4, 0}, machine(), b, 5, 0x80001000)
	loads(t, call{"Load", 0x80000ff8, 8, 0}, machine(), b, 0)
	stops(t, call{"Load", 0, 3, 0}, machine(), b, 4, 0)
}

func TestExample2OfAccess(t *testing.T) {
	b := blank(t)
	stops(t, call{"Load", 0x80000000, 4, 0}, api.Cpu{}, b, 5, 0x80000000)
	loads(t, call{"Load", 0x80000000, 4, 0}, user(1), b, 0)
	stops(t, call{"Store", 0x80000000, 4, 1}, user(1), b, 7, 0x80000000)
}

func TestExample3OfAccess(t *testing.T) {
	b := blank(t)
	c := borrowed(user(1), 0)
	stops(t, call{"Store", 0x80000000, 4, 1}, c, b, 7, 0x80000000)
	c.Mstatus &^= mprv
	gives(t, call{"Store", 0x80000000, 4, 1}, c, b, answer{}, api.Res{})
	there(t, b, 0x80000000, 4, 1)
}

func TestExample4OfAccess(t *testing.T) {
	b := blank(t)
	res := api.Res{Valid: true, Addr: 0x80000008, Size: 8}
	c := gives(t, call{"Reserve", 0x80000008, 8, 0}, machine(), b, answer{}, res)
	gives(t, call{"Store", 0x8000000f, 1, 0}, c, b, answer{}, api.Res{})
	gives(t, call{"Store", 0x80000010, 1, 0}, c, b, answer{}, res)
	gives(t, call{"Conditional", 0x80000008, 4, 0}, c, b, answer{}, api.Res{})
}

func TestExample5OfAccess(t *testing.T) {
	b := blank(t)
	b.Store(0x2000000, 4, 1)
	stops(t, call{"Reserve", 0x2000000, 4, 0}, machine(), b, 5, 0x2000000)
	stops(t, call{"Conditional", 0x2000000, 4, 0}, machine(), b, 7, 0x2000000)
	loads(t, call{"Load", 0x2000000, 4, 0}, machine(), b, 1)
	stops(t, call{"Amo", 0x2000000, api.OpAmoaddW, 0}, machine(), b, 7, 0x2000000)
}

func TestExample6OfAccess(t *testing.T) {
	b := blank(t)
	b.Store(0x80000ffe, 2, 0x93)
	stops(t, call{name: "Fetch"}, at(machine(), 0x80000ffe), b, 1, 0x80001000)
	b.Store(0x80000002, 2, 0x93)
	c := with(api.Cpu{}, 0, 0x14, 0x80000000/4)
	stops(t, call{name: "Fetch"}, at(c, 0x80000002), b, 1, 0x80000004)
}

func TestExample7OfAccess(t *testing.T) {
	b := blank(t)
	b.Store(0x80000000, 4, 0xffffffff)
	gives(t, call{"Amo", 0x80000000, api.OpAmoaddW, 2}, machine(), b, answer{number: 0xffffffff, stored: 1}, api.Res{})
	stops(t, call{"Amo", 0x80000000, api.OpAmoaddW, 2}, user(1), b, 7, 0x80000000)
	stops(t, call{"Amo", 0x80000000, api.OpAmoaddW, 2}, user(2), b, 7, 0x80000000)
}
