package hart_test

import (
	"math/rand/v2"
	"testing"

	"anvil/api"
	"anvil/bus"
	"anvil/decode"
	"anvil/hart"
	"anvil/pmp"
)

// fenced is a Cpu in U with entries that cut RAM into pieces of different rights, and code that may mostly be fetched.
func fenced(r *rand.Rand) api.Cpu {
	c := modelProper(anyCpu(r))
	c.Mode, c.Pmp, c.Waiting = api.U, api.Pmp{}, r.IntN(20) == 0
	for i := range 1 + r.IntN(4) {
		c.Pmp.Cfg[i] = uint8(r.IntN(32))
		c.Pmp.Addr[i] = (ram+uint64(r.IntN(little)))/4 | [...]uint64{0, 0, 1, 3}[r.IntN(4)]
	}
	if r.IntN(4) > 0 {
		c.Pmp.Cfg[7], c.Pmp.Addr[7] = 0x18|[...]uint8{4, 5, 7, 7}[r.IntN(4)], 1<<54-1
	}
	if r.IntN(8) > 0 {
		c.Mie = 0
	}
	return modelProper(c)
}

// kept is the CSRs of a Cpu that no step in U changes.
func kept(c api.Cpu) [6]uint64 {
	return [6]uint64{c.Mtvec, c.Mie, c.Mcounteren, c.Mcountinhibit, c.Menvcfg, c.Mscratch}
}

// reaching is the bits of a load, a store or an atomic.
func reaching(r *rand.Rand) uint32 {
	return anyOf(r, [...]int{api.OpLb + r.IntN(11), api.OpLrW + r.IntN(api.Ops-api.OpLrW)}[r.IntN(2)])
}

// trapCsrs is the CSRs of a Cpu that a trap changes.
func trapCsrs(c api.Cpu) [4]uint64 { return [4]uint64{c.Mstatus, c.Mepc, c.Mcause, c.Mtval} }

// untouched holds that a step in U left all that is not granted.
func untouched(t *testing.T, c, d api.Cpu, told api.Row, was, is api.Bus) {
	t.Helper()
	for i := range was.Ram {
		if addr := ram + uint64(i); was.Ram[i] != is.Ram[i] && !pmp.Granted(c.Pmp, addr, api.W) {
			t.Fatalf("%+v changes byte %d, which is not granted", told, i)
		}
	}
	for _, one := range []struct {
		addr    uint64
		changed bool
	}{{msip, was.Msip != is.Msip}, {mtimecmp, was.Mtimecmp != is.Mtimecmp}, {mtime, was.Mtime != is.Mtime}} {
		if one.changed && !pmp.Granted(c.Pmp, one.addr, api.W) && !pmp.Granted(c.Pmp, one.addr+4, api.W) {
			t.Fatalf("%+v changes the register at %#x, which is not granted", told, one.addr)
		}
	}
	if c.Pmp != d.Pmp || kept(c) != kept(d) {
		t.Fatalf("%+v: the Cpu was\n%+v, is\n%+v", told, c, d)
	}
	want := trapCsrs(c)
	if told.Kind == api.RowException || told.Kind == api.RowInterrupt {
		want = trapCsrs(modelEnter(c, told.Cause, told.Tval))
	}
	if trapCsrs(d) != want {
		t.Fatalf("%+v: of the trap are %#x, want %#x", told, trapCsrs(d), want)
	}
}

// TestP2Integrity: a step that begins in U changes no byte of RAM and no register of the CLINT that is not granted, no entry, and no CSR but the counters and, with a trap, those of the trap.
func TestP2Integrity(t *testing.T) {
	r := random(8)
	stores, traps := 0, 0
	for range 60000 {
		c, s := fenced(r), anyState(r)
		s.Off, s.Code = 0, 0
		if s = put(s, c.Pc, anyCode(r)); r.IntN(2) == 0 {
			s = put(s, c.Pc, reaching(r))
		}
		w := anyWorld(r)
		b := of(t, s)
		d, told := hart.Step(c, b, w)
		untouched(t, c, d, told, modelBegin(s, w), b.State())
		if told.Mem&api.W != 0 {
			stores++
		}
		if told.Kind == api.RowException && (told.Cause == 5 || told.Cause == 7) {
			traps++
		}
	}
	if stores < 1000 || traps < 1000 {
		t.Errorf("%d stores, %d faults: too few to tell", stores, traps)
	}
}

// veiled is a state that agrees with s in all but the bytes of RAM to which U has neither R nor X.
func veiled(r *rand.Rand, p api.Pmp, s api.Bus) (api.Bus, int) {
	n := 0
	s = holding(s, 0, 0, 0)
	for i := range s.Ram {
		if !pmp.Granted(p, ram+uint64(i), api.R) && !pmp.Granted(p, ram+uint64(i), api.X) {
			s.Ram[i] = ^s.Ram[i] ^ byte(r.IntN(128))
			n++
		}
	}
	return s, n
}

// agree tells whether two states are the same but for the bytes that are veiled.
func agree(p api.Pmp, a, b api.Bus) bool {
	for i := range a.Ram {
		seen := pmp.Granted(p, ram+uint64(i), api.R) || pmp.Granted(p, ram+uint64(i), api.X)
		if seen && a.Ram[i] != b.Ram[i] {
			return false
		}
	}
	return sameDevices(a, b)
}

// TestP3Confidentiality: two wholes in U that differ in bytes alone to which U has neither R nor X have the same rows, up to and with the first trap, and still agree.
func TestP3Confidentiality(t *testing.T) {
	r := random(9)
	hidden, steps := 0, 0
	for range 8000 {
		c, s := fenced(r), anyState(r)
		s.Off, s.Code = 0, 0
		for place := 0; place < little; place += 4 {
			s = put(s, ram+uint64(place), anyCode(r))
		}
		other, n := veiled(r, c.Pmp, s)
		if n == 0 {
			continue
		}
		hidden++
		b, twin := of(t, s), of(t, other)
		mine, its := c, c
		for range 30 {
			w := anyWorld(r)
			var told, heard api.Row
			mine, told = hart.Step(mine, b, w)
			its, heard = hart.Step(its, twin, w)
			steps++
			if told != heard || mine != its || !agree(c.Pmp, b.State(), twin.State()) {
				t.Fatalf("the rows are\n%+v\n%+v, the Cpus\n%+v\n%+v", told, heard, mine, its)
			}
			if told.Cause != 0 {
				break
			}
		}
	}
	if hidden < 1000 || steps < 3*hidden/2 {
		t.Errorf("%d wholes with hidden bytes, %d steps: too few to tell", hidden, steps)
	}
}

// frozen holds that what is locked in p is the same in q.
func frozen(t *testing.T, told api.Row, p, q api.Pmp) int {
	t.Helper()
	n := 0
	for i := range 16 {
		if p.Cfg[i]&0x80 == 0 {
			continue
		}
		n++
		if p.Cfg[i] != q.Cfg[i] || p.Addr[i] != q.Addr[i] {
			t.Fatalf("%+v changes entry %d, which is locked", told, i)
		}
		if i > 0 && p.Cfg[i]&0x18 == 8 && p.Addr[i-1] != q.Addr[i-1] {
			t.Fatalf("%+v changes the address ahead of entry %d, which is locked and TOR", told, i)
		}
	}
	return n
}

// TestP4Locks: what is locked never changes, whatever runs, in whatever mode; most instructions here write entries.
func TestP4Locks(t *testing.T) {
	r := random(10)
	locked, changed := 0, 0
	for range 400 {
		c, s := anyWhole(r)
		c.Mode, c.Mie, s.Off, s.Code = api.M, 0, 0, 0
		c.Pmp.Cfg[3], c.Pmp.Cfg[12] = uint8(r.IntN(256)), uint8(r.IntN(256))
		for range 60 {
			if c = modelProper(c); r.IntN(3) > 0 {
				c.Pc, c.X[1] = ram, r.Uint64()
				number := [...]uint32{0x3a0, 0x3a2, 0x3b0 + uint32(r.IntN(16))}[r.IntN(3)]
				op := api.OpCsrrw + r.IntN(6)
				s = put(s, ram, anyOf(r, op)&0x7fff|number<<20|1<<15)
			}
			b := of(t, s)
			d, told := hart.Step(c, b, anyWorld(r))
			locked += frozen(t, told, modelProper(c).Pmp, d.Pmp)
			if c.Pmp != d.Pmp {
				changed++
			}
			c, s = d, b.State()
		}
	}
	if locked < 1000 || changed < 500 {
		t.Errorf("%d entries were locked, %d changes: too few to tell", locked, changed)
	}
}

// TestP4Faults: an access whose lowest match is locked and lacks the bit has an exception in M too, and changes nothing.
func TestP4Faults(t *testing.T) {
	for _, one := range []struct {
		bits  uint8
		text  string
		cause uint64
	}{
		{0, "ld x1, 0(x2)", 5}, {4, "lb x1, 0(x2)", 5}, {0, "lr.w x1, (x2)", 5},
		{1, "sd x1, 0(x2)", 7}, {5, "sc.d x1, x3, (x2)", 7}, {1, "amoadd.w x1, x3, (x2)", 7}, {4, "amoor.d x1, x3, (x2)", 7},
	} {
		c := full(machine())
		c.X[2], c.X[3] = ram+56, 7
		c.Pmp.Cfg[2], c.Pmp.Addr[2] = 0x98|one.bits, (ram+56)/4 // NAPOT, locked, eight bytes
		c.Pmp.Cfg[3], c.Pmp.Addr[3] = 0x1f, 1<<54-1
		refuses(t, c, one.text, one.cause, ram+56)
	}
}

// asOf is a row without the modes, in which M with MPRV and U differ; of the calls that tell the mode there is none here.
func asOf(r api.Row) api.Row {
	r.Mode, r.NextMode = 0, 0
	return r
}

// lending is a Cpu in U whose entry 0 grants X to the first eight bytes and whose other entries cut what is behind them; and the same one in M with MPRV and MPP U.
func lending(r *rand.Rand) (u, m api.Cpu) {
	u = fenced(r)
	u.Pc, u.Mie, u.Waiting, u.Mstatus = ram, 0, false, uxl
	u.Pmp.Cfg[0], u.Pmp.Addr[0] = 0x1c, ram/4
	m = u
	m.Mode, m.Mstatus = api.M, uxl|mprv
	return u, m
}

// TestP5Mprv: in M with MPRV and MPP U each load, store and atomic reads, changes, succeeds or faults as it would in U; the Mode, and what the trap keeps of it, are M's.
func TestP5Mprv(t *testing.T) {
	r := random(11)
	faults, done := 0, 0
	for range 30000 {
		u, m := lending(r)
		s := anyState(r)
		s.Off, s.Code = 0, 0
		s = put(s, ram, reaching(r))
		w := anyWorld(r)
		b, twin := of(t, s), of(t, s)
		inU, ofU := hart.Step(u, b, w)
		inM, ofM := hart.Step(m, twin, w)
		if asOf(ofU) != asOf(ofM) || inU.X != inM.X || inU.Res != inM.Res || !sameState(b.State(), twin.State()) {
			t.Fatalf("in U:\n%+v\n%+v\nin M:\n%+v\n%+v", ofU, inU, ofM, inM)
		}
		before := uint64(0)
		switch ofM.Kind {
		case api.RowException:
			faults++
			before = mpp
		case api.RowRetire:
			done++
		}
		if inM.Mode != api.M || inM.Mstatus != uxl|mprv|before || ofM.Mode != api.M {
			t.Fatalf("%+v: the Mode is %d, Mstatus %#x", ofM, inM.Mode, inM.Mstatus)
		}
	}
	if faults < 2000 || done < 2000 {
		t.Errorf("%d faults, %d done: too few to tell", faults, done)
	}
}

// TestP5Fetch: fetches are M's with MPRV too; an MRET to U clears it, and then U's fetch is U's.
func TestP5Fetch(t *testing.T) {
	c := user(3)
	c.Mode, c.Mstatus, c.Mepc = api.M, uxl|mprv, ram+8
	b := program(t, "addi x4, x0, 1", "mret", "c.nop")
	want := fetched(row(c, api.RowRetire), says(t, "addi x4, x0, 1"))
	want.Rd, want.Val, want.Next = 4, 1, ram+4
	c = gives(t, c, b, api.World{}, want)
	want = fetched(row(c, api.RowRetire), says(t, "mret"))
	want.Next, want.NextMode = ram+8, api.U
	c = gives(t, c, b, api.World{}, want, func(c *api.Cpu) { c.Mstatus = uxl | mpie })
	gives(t, c, b, api.World{}, trapped(c, api.RowException, 1, ram+8, 0))
}

// play is the rows of some worlds, and the Cpu behind them.
func play(c api.Cpu, b *bus.Bus, worlds []api.World) (api.Cpu, []api.Row) {
	var rows []api.Row
	for _, w := range worlds {
		var told api.Row
		c, told = hart.Step(c, b, w)
		rows = append(rows, told)
	}
	return c, rows
}

// TestP7Composition: n steps and then m are n + m steps, where in between the bus was told and made again too.
func TestP7Composition(t *testing.T) {
	r := random(12)
	for range 1500 {
		c, s := anyWhole(r)
		for place := 0; place < little; place += 4 {
			s = put(s, ram+uint64(place), anyCode(r))
		}
		worlds := make([]api.World, 30)
		for i := range worlds {
			worlds[i] = anyWorld(r)
		}
		b := of(t, s)
		end, rows := play(c, b, worlds)
		n := r.IntN(31)
		first := of(t, s)
		middle, head := play(c, first, worlds[:n])
		second := of(t, first.State())
		last, tail := play(middle, second, worlds[n:])
		for i, told := range append(head, tail...) {
			if told != rows[i] {
				t.Fatalf("cut behind %d: row %d is\n%+v, want\n%+v", n, i, told, rows[i])
			}
		}
		if last != end || !sameState(b.State(), second.State()) {
			t.Fatalf("cut behind %d: the Cpu is\n%+v, want\n%+v", n, last, end)
		}
	}
}

// TestP9Length: an instruction and its short form have the same row, but for Raw, Len, the place behind it, and what tells that place.
func TestP9Length(t *testing.T) {
	for _, one := range [][2]string{
		{"addi x9, x9, 1", "c.addi x9, 1"}, {"lw x9, 4(x8)", "c.lw x9, 4(x8)"}, {"sd x9, 8(x8)", "c.sd x9, 8(x8)"}, {"add x9, x0, x8", "c.mv x9, x8"},
	} {
		for _, c := range both() {
			c = full(c)
			c.X[8] = ram + 32
			d, long := hart.Step(c, program(t, one[0]), api.World{})
			e, short := hart.Step(c, program(t, one[1]), api.World{})
			if long.Len != 4 || short.Len != 2 || decode.Decode(short.Raw).Op != decode.Decode(long.Raw).Op {
				t.Fatalf("%v: the rows are\n%+v\n%+v", one, long, short)
			}
			short.Raw, short.Len, short.Next, e.Pc = long.Raw, 4, short.Next+2, e.Pc+2
			if d != e || long != short {
				t.Errorf("%v: the rows are\n%+v\n%+v", one, long, short)
			}
		}
	}
}
