package access_test

import (
	"bytes"
	"math/rand/v2"
	"testing"

	"anvil/api"
	"anvil/bus"
)

// TestB7Nothing: a call that traps leaves the bus and the Cpu, and all else that it answers is zero; without one the Trap is zero.
func TestB7Nothing(t *testing.T) {
	r := random(4)
	trapped, done := 0, 0
	for range 40000 {
		c, k := anyCpu(r, little), anyCall(r, little)
		b := of(t, rich(little))
		was := b.State()
		got := k.do(c, b)
		if !got.trap.Is {
			done++
			if got.trap != (api.Trap{}) {
				t.Fatalf("%v answers no trap, and of it %+v", k, got.trap)
			}
			continue
		}
		trapped++
		want := answer{trap: got.trap}
		if k.givesCpu() {
			want.cpu = modelProper(c)
		}
		if got != want || !sameState(was, b.State()) {
			t.Fatalf("%v of %+v traps and answers\n%+v; the bus was\n%+v, is\n%+v", k, c, got, was, b.State())
		}
	}
	if trapped < 1000 || done < 1000 {
		t.Errorf("%d calls trapped, %d did not: too few to tell", trapped, done)
	}
}

// TestB7Only: of the Cpu a call can change Res alone.
func TestB7Only(t *testing.T) {
	r := random(5)
	for range 20000 {
		c, k := anyCpu(r, little), anyCall(r, little)
		got := k.do(c, of(t, rich(little))).cpu
		want := modelProper(c)
		want.Res = got.Res
		if k.givesCpu() && got != want {
			t.Fatalf("%v of %+v answers the Cpu\n%+v", k, c, got)
		}
	}
}

// TestB8AsU: in M with MPRV and MPP 0 each call but Fetch answers and does what it does in U; Fetch what it does in M.
func TestB8AsU(t *testing.T) {
	r := random(6)
	for range 40000 {
		c, k := anyCpu(r, little), anyCall(r, little)
		c = modelProper(c)
		c.Mode, c.Mstatus = api.M, c.Mstatus&^uint64(mpp)|mprv
		other := c
		other.Mode = api.U
		if k.name == "Fetch" {
			other.Mode, other.Mstatus = api.M, c.Mstatus&^uint64(mprv)
		}
		b, twin := of(t, rich(little)), of(t, rich(little))
		got, want := k.do(c, b), k.do(other, twin)
		if k.givesCpu() {
			want.cpu.Mode, want.cpu.Mstatus = c.Mode, c.Mstatus
		}
		if got != want || !sameState(b.State(), twin.State()) {
			t.Fatalf("%v of %+v answers\n%+v, the other mode\n%+v", k, c, got, want)
		}
	}
}

// TestB8AsM: with MPP 3 MPRV changes nothing, and in U it does not count.
func TestB8AsM(t *testing.T) {
	r := random(7)
	for range 20000 {
		c, k := modelProper(anyCpu(r, little)), anyCall(r, little)
		if c.Mode == api.M {
			c.Mstatus |= mpp
		}
		c.Mstatus &^= mprv
		d := c
		d.Mstatus |= mprv
		b, twin := of(t, rich(little)), of(t, rich(little))
		got, want := k.do(d, b), k.do(c, twin)
		if k.givesCpu() {
			want.cpu.Mstatus |= mprv
		}
		if got != want || !sameState(b.State(), twin.State()) {
			t.Fatalf("%v of %+v answers\n%+v, without MPRV\n%+v", k, c, got, want)
		}
	}
}

// asUser is a proper Cpu whose effective mode is U; Fetches need the Mode U itself.
func asUser(r *rand.Rand, k call) api.Cpu {
	c := modelProper(anyCpu(r, little))
	c.Mode = api.U
	if k.name != "Fetch" && r.IntN(2) == 0 {
		c = borrowed(c, 0)
	}
	return c
}

// device is a part of the devices that has addresses of its own, and how it is made another.
type device struct {
	first, end uint64
	turn       func(s *api.Bus, r *rand.Rand)
}

func devices() []device {
	return []device{
		{finisher, finisher + 3, func(s *api.Bus, r *rand.Rand) { s.Off, s.Code = 2, r.IntN(65536) }},
		{msip, msip + 3, func(s *api.Bus, r *rand.Rand) { s.Msip = r.Uint32N(2) }},
		{mtimecmp, mtimecmp + 3, func(s *api.Bus, r *rand.Rand) { s.Mtimecmp ^= uint64(r.Uint32()) }},
		{mtimecmp + 4, mtimecmp + 7, func(s *api.Bus, r *rand.Rand) { s.Mtimecmp ^= uint64(r.Uint32()) << 32 }},
		{mtime, mtime + 3, func(s *api.Bus, r *rand.Rand) { s.Mtime ^= uint64(r.Uint32()) }},
		{mtime + 4, mtime + 7, func(s *api.Bus, r *rand.Rand) { s.Mtime ^= uint64(r.Uint32()) << 32 }},
		{console, console + 7, otherConsole},
	}
}

func otherConsole(s *api.Bus, r *rand.Rand) {
	s.Ier, s.Lcr, s.Mcr, s.Scratch = uint8(r.IntN(16)), uint8(r.Uint32()), uint8(r.IntN(32)), uint8(r.Uint32())
	s.Overrun, s.Input, s.Output = r.IntN(2) == 0, []byte("other"[:r.IntN(5)]), []byte("some"[:r.IntN(4)])
}

// grantedRun tells whether U has one of the bits at one byte of a run at least.
func grantedRun(p api.Pmp, first, end uint64, bits int) bool {
	for b := first; b <= end; b++ {
		if modelGranted(p, b, bits) {
			return true
		}
	}
	return false
}

// TestB9Write: in an effective mode U no byte of RAM changes that is not granted W, and no device whose bytes are not.
func TestB9Write(t *testing.T) {
	r := random(8)
	changed, turned := 0, 0
	for range 60000 {
		k := anyCall(r, little)
		c := asUser(r, k)
		if k.name == "Conditional" && r.IntN(2) == 0 {
			c.Res = modelProper(holding(c, k.addr, k.size)).Res
		}
		b := of(t, rich(little))
		was := b.State()
		k.do(c, b)
		is := b.State()
		for i := range was.Ram {
			if was.Ram[i] == is.Ram[i] {
				continue
			}
			changed++
			if !modelGranted(c.Pmp, ram+uint64(i), api.W) {
				t.Fatalf("%v of %+v changes byte %d, which is not granted", k, c, i)
			}
		}
		is.Ram = was.Ram
		if k.name != "Load" && !sameState(was, is) {
			turned++
			for i := range uint64(k.size) {
				if !modelGranted(c.Pmp, k.addr+i, api.W) {
					t.Fatalf("%v of %+v changes a device at bytes that are not granted", k, c)
				}
			}
		}
	}
	if changed < 1000 || turned < 50 {
		t.Errorf("%d bytes and %d devices changed: too few to tell", changed, turned)
	}
}

// TestB9Read: in U two buses that differ in what is not granted alone give the same answers: R of a Load, Reserve or Amo, X of a Fetch. What differs stays so.
func TestB9Read(t *testing.T) {
	r := random(9)
	done := 0
	for range 60000 {
		k := anyCall(r, little)
		c := asUser(r, k)
		bits := api.R
		if k.name == "Fetch" {
			bits = api.X
		}
		s, other := rich(little), rich(little)
		for i := range other.Ram {
			if !modelGranted(c.Pmp, ram+uint64(i), bits) {
				other.Ram[i] = byte(r.Uint32())
			}
		}
		for _, d := range devices() {
			if !grantedRun(c.Pmp, d.first, d.end, bits) {
				d.turn(&other, r)
			}
		}
		b, twin := of(t, s), of(t, other)
		got, want := k.do(c, b), k.do(c, twin)
		if got != want {
			t.Fatalf("%v of %+v answers\n%+v, and with other bytes that are not granted\n%+v", k, c, got, want)
		}
		if !got.trap.Is {
			done++
		}
		sameChange(t, k, s.Ram, other.Ram, b, twin)
	}
	if done < 1000 {
		t.Errorf("%d calls did not trap: too few to tell", done)
	}
}

// sameChange holds that a call has changed the same bytes of two RAMs to the same numbers.
func sameChange(t *testing.T, k call, s, other []byte, b, twin *bus.Bus) {
	t.Helper()
	is, too := b.State().Ram, twin.State().Ram
	for i := range is {
		if (is[i] != s[i] || too[i] != other[i]) && is[i] != too[i] {
			t.Fatalf("%v: byte %d was %#x and %#x, is %#x and %#x", k, i, s[i], other[i], is[i], too[i])
		}
	}
	if bytes.Equal(s, other) && !bytes.Equal(is, too) {
		t.Fatalf("%v: of one RAM it makes %x and %x", k, is, too)
	}
}

// history is what has happened of what B10 counts, the last behind.
type history []call

// stores tells whether a Conditional stores behind all this.
func (h history) stores(k call) bool {
	for i := len(h) - 1; i >= 0; i-- {
		if h[i].name != "Reserve" && h[i].name != "Conditional" {
			continue
		}
		if h[i].name == "Conditional" || h[i].addr != k.addr || h[i].size != k.size {
			return false
		}
		for _, one := range h[i+1:] {
			size := one.size
			if one.name == "Amo" {
				_, size = modelAmo(one.size, 0, 0)
			}
			if meets(api.Res{Valid: true, Addr: k.addr, Size: k.size}, one.addr, size) {
				return false
			}
		}
		return true
	}
	return false
}

// reserving is a call at one of few places, often a Conditional where the last Reserve was.
func reserving(r *rand.Rand, h history) call {
	k := anyCall(r, 8)
	k.addr = ram + uint64(r.IntN(6)*4)
	if k.name != "Amo" && r.IntN(3) > 0 {
		k.size = 4 << r.IntN(2)
	}
	for i := range h {
		if one := h[len(h)-1-i]; one.name == "Reserve" && r.IntN(4) == 0 {
			return call{"Conditional", one.addr, one.size, r.Uint64()}
		}
	}
	return k
}

// TestB10Reserved: with no reservation at the beginning, a Conditional that does not trap stores just if the history says so.
func TestB10Reserved(t *testing.T) {
	r := random(10)
	stored, not := 0, 0
	for range 2000 {
		b, h := of(t, rich(little)), history{}
		c := machine()
		if r.IntN(2) == 0 {
			c = with(user(3), 0, 0x13, ram/4+2)
			c = with(c, 1, 0x1b, 1<<54-1)
		}
		for range 40 {
			k := reserving(r, h)
			want := h.stores(k)
			got := k.do(c, b)
			if k.givesCpu() {
				c = got.cpu
			}
			if got.trap.Is || k.name == "Load" || k.name == "Fetch" {
				continue
			}
			h = append(h, k)
			if k.name != "Conditional" {
				continue
			}
			if got.done != want {
				t.Fatalf("the last of %v: %v, want %v", h, got.done, want)
			}
			if got.done {
				stored++
				there(t, b, k.addr, k.size, k.v<<(64-8*k.size)>>(64-8*k.size))
			} else {
				not++
			}
		}
	}
	if stored < 500 || not < 500 {
		t.Errorf("%d stored, %d did not: too few to tell", stored, not)
	}
}

// TestRule1Access: every call ends, whatever it is given.
func TestRule1Access(t *testing.T) {
	r := random(11)
	for range 40000 {
		c, k := anyCpu(r, little), call{name: names()[r.IntN(5)], addr: r.Uint64(), size: int(r.Uint64()), v: r.Uint64()}
		if r.IntN(2) == 0 {
			k.addr = somewhere(r, little)
		}
		cause := k.do(c, of(t, rich(8))).trap.Cause
		if k.size < 0 || k.size > api.Ops {
			want := map[string]uint64{"Load": 4, "Store": 6, "Reserve": 4, "Conditional": 6, "Amo": 2}[k.name]
			if cause != want {
				t.Fatalf("%v has cause %d", k, cause)
			}
		}
	}
}
