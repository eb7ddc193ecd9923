package pmp_test

import (
	"math"
	"math/rand/v2"
	"testing"

	"anvil/api"
	"anvil/pmp"
)

const last = math.MaxUint64

// far are numbers that are far from any entry's, register's, size's, mode's or right's.
var far = []int{math.MinInt, math.MinInt32, -256, -128, 128, 256, math.MaxInt32, math.MaxInt}

// list makes entries: Cfg and Addr by turns, from entry 0 on.
func list(l ...uint64) api.Pmp {
	var p api.Pmp
	for i := range len(l) / 2 {
		p.Cfg[i], p.Addr[i] = uint8(l[2*i]), l[2*i+1]
	}
	return p
}

// at is entries of which one alone is something.
func at(i int, cfg uint8, addr uint64) api.Pmp {
	var p api.Pmp
	p.Cfg[i], p.Addr[i] = cfg, addr
	return p
}

// random is a source that gives the same numbers each time.
func random(seed uint64) *rand.Rand { return rand.New(rand.NewPCG(seed, 4)) }

// anyBits is entries of any bits at all, those that cannot be too.
func anyBits(r *rand.Rand) api.Pmp {
	var p api.Pmp
	for i := range p.Cfg {
		p.Cfg[i], p.Addr[i] = uint8(r.Uint32()), anyAddr(r)
	}
	return p
}

// crowd is entries whose ranges lie close together at the first addresses, and some far away, so that an access often meets several of them. A lock is rare.
func crowd(r *rand.Rand) api.Pmp {
	var p api.Pmp
	for i := range p.Cfg {
		if r.IntN(3) > 0 {
			p.Cfg[i] = uint8(r.Uint32())
		}
		if r.IntN(4) > 0 {
			p.Cfg[i] &^= 0x80
		}
		p.Addr[i] = closeAddr(r)
	}
	return p
}

// some is entries of either kind.
func some(r *rand.Rand) api.Pmp {
	if r.IntN(5) == 0 {
		return anyBits(r)
	}
	return crowd(r)
}

func closeAddr(r *rand.Rand) uint64 {
	switch r.IntN(12) {
	case 0:
		return anyAddr(r)
	case 1:
		return 1<<54 - 1 - r.Uint64N(6)
	}
	return r.Uint64N(16)
}

// anyAddr is any bits, often with many trailing ones.
func anyAddr(r *rand.Rand) uint64 {
	v, ones := r.Uint64(), uint64(1)<<r.IntN(65)-1
	switch r.IntN(4) {
	case 0:
		return v
	case 1:
		return v & ones
	case 2:
		return v | ones
	}
	return ones
}

// place is the address of an access to such entries: close to where one of them is, or anywhere.
func place(r *rand.Rand, p api.Pmp) uint64 {
	switch r.IntN(8) {
	case 0:
		return r.Uint64()
	case 1:
		return last - r.Uint64N(12)
	case 2, 3:
		return p.Addr[r.IntN(16)]<<2 + r.Uint64N(20) - 10
	}
	return r.Uint64N(80)
}

func anyMode(r *rand.Rand) int { return r.IntN(2) * api.M }

func anySize(r *rand.Rand) int { return 1 + r.IntN(8) }

func anyRights(r *rand.Rand) int { return 1 + r.IntN(7) }

// order is a write: of a Cfg register, or of an Addr.
type order struct {
	addr bool
	n    int
	v    uint64
}

// anyOrder is a write of any kind, mostly one of something that is there.
func anyOrder(r *rand.Rand) order {
	if r.IntN(2) == 0 {
		return order{false, r.IntN(6) - 1, r.Uint64() & r.Uint64()}
	}
	return order{true, r.IntN(19) - 1, closeAddr(r)}
}

func (o order) do(p api.Pmp) api.Pmp {
	if o.addr {
		return pmp.SetAddr(p, o.n, o.v)
	}
	return pmp.SetCfg(p, o.n, o.v)
}

func same(t *testing.T, what string, got, want api.Pmp) {
	t.Helper()
	if got != want {
		t.Errorf("%s is\n%x, want\n%x", what, got, want)
	}
}
