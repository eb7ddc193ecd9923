package trap_test

import (
	"testing"

	"anvil/api"
	"anvil/trap"
)

// The model: what the document says, Mstatus taken apart into its fields. Of the program it uses nothing, of layer csr neither.

// pick is the bits of v whose numbers are told, and no other.
func pick(v uint64, numbers ...int) uint64 {
	sum := uint64(0)
	for _, n := range numbers {
		if v>>n%2 == 1 {
			sum += 1 << n
		}
	}
	return sum
}

// parts is Mstatus' fields.
type parts struct {
	mie, mpie, mprv, tw uint64
	mpp                 int
}

func apart(status uint64) parts {
	p := parts{mie: status >> 3 % 2, mpie: status >> 7 % 2, mprv: status >> 17 % 2, tw: status >> 21 % 2}
	if status>>11%4 == 3 {
		p.mpp = 3
	}
	return p
}

func (p parts) together() uint64 {
	return p.mie*8 + p.mpie*128 + uint64(p.mpp)*2048 + p.mprv*131072 + p.tw*2097152 + 2*4294967296
}

func modelProper(c api.Cpu) api.Cpu {
	d := api.Cpu{Waiting: c.Waiting}
	d.Pc = c.Pc / 2 * 2
	copy(d.X[1:], c.X[1:])
	if c.Mode == 3 {
		d.Mode = 3
	}
	d.Mstatus = apart(c.Mstatus).together()
	d.Mtvec = c.Mtvec - pick(c.Mtvec, 1)
	d.Mie = pick(c.Mie, 3, 7, 11)
	d.Mcounteren = pick(c.Mcounteren, 0, 1, 2)
	d.Mcountinhibit = pick(c.Mcountinhibit, 0, 2)
	d.Menvcfg = pick(c.Menvcfg, 0)
	d.Mscratch, d.Mcause, d.Mtval, d.Mcycle, d.Minstret = c.Mscratch, c.Mcause, c.Mtval, c.Mcycle, c.Minstret
	d.Mepc = c.Mepc / 2 * 2
	for i := range 16 {
		b := c.Pmp.Cfg[i]
		if b%4 == 2 {
			b -= 2
		}
		d.Pmp.Cfg[i] = uint8(pick(uint64(b), 0, 1, 2, 3, 4, 7))
		d.Pmp.Addr[i] = c.Pmp.Addr[i] % (1 << 54)
	}
	if c.Res.Valid && (c.Res.Size == 4 && c.Res.Addr%4 == 0 || c.Res.Size == 8 && c.Res.Addr%8 == 0) {
		d.Res = c.Res
	}
	return d
}

func modelPending(c api.Cpu, mip uint64) (int, bool) {
	if c.Mode == 3 && apart(c.Mstatus).mie == 0 {
		return 0, false
	}
	for _, n := range []int{11, 3, 7} {
		if mip>>n%2 == 1 && c.Mie>>n%2 == 1 {
			return n, true
		}
	}
	return 0, false
}

func modelEnter(c api.Cpu, cause, tval uint64) api.Cpu {
	d := modelProper(c)
	p := apart(d.Mstatus)
	p.mpie, p.mie, p.mpp = p.mie, 0, d.Mode
	d.Mepc, d.Mcause, d.Mtval, d.Mstatus = d.Pc, cause, tval, p.together()
	d.Mode, d.Waiting, d.Res = 3, false, api.Res{}
	d.Pc = d.Mtvec / 4 * 4
	if cause >= 1<<63 && d.Mtvec%2 == 1 {
		number := cause - 1<<63
		for range 4 {
			d.Pc += number
		}
	}
	return d
}

func modelReturn(c api.Cpu) (api.Cpu, bool) {
	d := modelProper(c)
	if d.Mode != 3 {
		return d, false
	}
	p := apart(d.Mstatus)
	d.Mode = p.mpp
	p.mie, p.mpie, p.mpp = p.mpie, 1, 0
	if d.Mode == 0 {
		p.mprv = 0
	}
	d.Mstatus, d.Pc, d.Res = p.together(), d.Mepc, api.Res{}
	return d, true
}

func modelWait(c api.Cpu) (api.Cpu, bool) {
	d := modelProper(c)
	if d.Mode == 0 && apart(d.Mstatus).tw == 1 {
		return d, false
	}
	d.Waiting = true
	return d, true
}

func modelEffective(c api.Cpu) int {
	p := apart(c.Mstatus)
	switch {
	case c.Mode != 3:
		return 0
	case p.mprv == 1:
		return p.mpp
	}
	return 3
}

// asModel holds every call on this Cpu against the model.
func asModel(t *testing.T, c api.Cpu, cause, tval, mip uint64) {
	t.Helper()
	n, is := trap.Pending(c, mip)
	if m, want := modelPending(c, mip); n != m || is != want {
		t.Errorf("Pending(%+v, %#x) is %d, %v, want %d, %v", c, mip, n, is, m, want)
	}
	same(t, "Enter", trap.Enter(c, cause, tval), modelEnter(c, cause, tval))
	d, legal := trap.Return(c)
	e, want := modelReturn(c)
	if legal != want {
		t.Errorf("Return(%+v): %v, want %v", c, legal, want)
	}
	same(t, "Return", d, e)
	d, legal = trap.Wait(c)
	e, want = modelWait(c)
	if legal != want {
		t.Errorf("Wait(%+v): %v, want %v", c, legal, want)
	}
	same(t, "Wait", d, e)
	if m, want := trap.Effective(c), modelEffective(c); m != want {
		t.Errorf("Effective(%+v) is %d, want %d", c, m, want)
	}
}

// TestProperAny: every call makes its Cpu proper first, whatever its bits, and answers a proper one.
func TestProperAny(t *testing.T) {
	r := random(1)
	for _, c := range someCpus(2, 20000) {
		asModel(t, c, anyWord(r), anyWord(r), anyWord(r))
	}
}

// TestProperModes: every mode, and what is none, with every Mstatus, in a Cpu in which all else is 0 and in a full one.
func TestProperModes(t *testing.T) {
	for _, c := range []api.Cpu{{}, full()} {
		for _, c.Mode = range modes() {
			for _, c.Mstatus = range statuses() {
				asModel(t, c, comes+7, 5, ones)
				asModel(t, c, 2, ones, 0)
			}
		}
	}
}

// TestProperFirst: a call on a Cpu is the call on the proper one.
func TestProperFirst(t *testing.T) {
	for _, c := range someCpus(3, 2000) {
		p := modelProper(c)
		same(t, "Enter", trap.Enter(c, ones, 7), trap.Enter(p, ones, 7))
		d, legal := trap.Return(c)
		e, too := trap.Return(p)
		same(t, "Return", d, e)
		f, waits := trap.Wait(c)
		g, also := trap.Wait(p)
		same(t, "Wait", f, g)
		if legal != too || waits != also || trap.Effective(c) != trap.Effective(p) {
			t.Errorf("%+v is not as its proper Cpu", c)
		}
		for _, one := range []api.Cpu{trap.Enter(c, ones, 7), d, f} {
			same(t, "an answer, made proper,", modelProper(one), one)
		}
	}
}
