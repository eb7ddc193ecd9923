package board_test

import (
	"bytes"
	"testing"

	"anvil/api"
	"anvil/decode"
	"anvil/pmp"
)

// The promises of the whole, as they show in plays. What a step did is told by the wholes ahead of it and behind it, not by the machine.

// around plays a deck and calls look with the whole ahead of each step, its world, its row and the whole behind it.
func around(t *testing.T, d api.Deck, look func(was api.Whole, w api.World, row api.Row, is api.Whole)) {
	t.Helper()
	b := made(t, d)
	was := b.Whole()
	for _, w := range d.Worlds {
		row := b.Step(w)
		is := b.Whole()
		look(was, w, row, is)
		was = is
	}
}

// userDeck is a deck of any kind whose hart is in U, and whose entries cut RAM.
func userDeck(seed uint64, n int) api.Deck {
	r := random(seed)
	d := anyDeck(r, n)
	if d.Cpu.Mode, d.Cpu.Waiting = api.U, false; r.IntN(2) == 0 {
		d.Cpu.Mie = 0
	}
	return d
}

// trapped is a Cpu behind trap entry, the counters as they were.
func trapped(c api.Cpu, cause, tval uint64) api.Cpu {
	m := machine{cpu: c}
	m.enter(cause, tval)
	return m.cpu
}

// come is a bus behind the world's coming.
func come(b api.Bus, w api.World) api.Bus {
	m := machine{bus: b}
	m.bus.Input = bytes.Clone(b.Input)
	m.comes(w)
	return m.bus
}

// TestP2Integrity: a step that begins in U changes no byte and no register that is not granted, no entry, and of the CSRs the counters alone, or what trap entry does.
func TestP2Integrity(t *testing.T) {
	stores, faults := 0, 0
	for seed := range uint64(3000) {
		around(t, userDeck(1000+seed, 30), func(was api.Whole, w api.World, row api.Row, is api.Whole) {
			if row.Mode != api.U || row.Kind == api.RowOff {
				return
			}
			p := was.Cpu.Pmp
			for i := range was.Bus.Ram {
				if was.Bus.Ram[i] != is.Bus.Ram[i] && !pmp.Granted(p, ram+uint64(i), api.W) {
					t.Fatalf("P2: %+v changes byte %d", row, i)
				}
			}
			late := come(was.Bus, w)
			for addr, changed := range map[uint64]bool{msip: late.Msip != is.Bus.Msip, mtimecmp: late.Mtimecmp != is.Bus.Mtimecmp, mtime: late.Mtime != is.Bus.Mtime} {
				if changed && !pmp.Granted(p, addr, api.W) && !pmp.Granted(p, addr+4, api.W) {
					t.Fatalf("P2: %+v changes the register at %#x", row, addr)
				}
			}
			want := was.Cpu
			if row.Cause != 0 {
				want = trapped(want, row.Cause, row.Tval)
				faults++
			}
			want.Mcycle, want.Minstret, want.Pc, want.X, want.Waiting, want.Res = is.Cpu.Mcycle, is.Cpu.Minstret, is.Cpu.Pc, is.Cpu.X, is.Cpu.Waiting, is.Cpu.Res
			if want != is.Cpu {
				t.Fatalf("P2: behind %+v the Cpu is\n%+v, was\n%+v", row, is.Cpu, was.Cpu)
			}
			stores += row.Mem >> 1
		})
	}
	if stores < 500 || faults < 1000 {
		t.Errorf("%d stores, %d traps: too few to tell", stores, faults)
	}
}

// TestP3Confidentiality: two decks in U that differ in bytes to which U has neither R nor X have the same rows up to the first trap, and still agree.
func TestP3Confidentiality(t *testing.T) {
	seen := func(p api.Pmp, i int) bool {
		return pmp.Granted(p, ram+uint64(i), api.R) || pmp.Granted(p, ram+uint64(i), api.X)
	}
	hidden, rows := 0, 0
	for seed := range uint64(2500) {
		d := userDeck(5000+seed, 30)
		first := made(t, d)
		w := first.Whole()
		p, veil := w.Cpu.Pmp, 0
		for i := range w.Bus.Ram {
			if !seen(p, i) {
				w.Bus.Ram[i] ^= byte(0x55 + i)
				veil++
			}
		}
		second := again(t, w)
		for _, w := range d.Worlds {
			mine, its := first.Step(w), second.Step(w)
			a, b := first.Whole(), second.Whole()
			for i := range a.Bus.Ram {
				if seen(p, i) && a.Bus.Ram[i] != b.Bus.Ram[i] {
					t.Fatalf("P3: behind %+v byte %d is another", mine, i)
				}
			}
			if mine != its || a.Cpu != b.Cpu || !sameDevices(a.Bus, b.Bus) {
				t.Fatalf("P3: the rows are\n%+v\n%+v", mine, its)
			}
			if rows++; mine.Cause != 0 {
				break
			}
		}
		hidden += min(veil, 1)
	}
	if hidden < 500 || rows < 4000 {
		t.Errorf("%d decks with something hidden, %d rows: too few to tell", hidden, rows)
	}
}

// TestP4Locks: what is locked never changes, whatever runs; and an access whose lowest match is locked and lacks the bit is an exception in M too.
func TestP4Locks(t *testing.T) {
	r := random(15)
	locked, writes := 0, 0
	for range 1500 {
		d := anyDeck(r, 30)
		d.Cpu.Mode = api.M
		d.Cpu.Pmp.Cfg[r.IntN(8)], d.Cpu.Pmp.Cfg[r.IntN(8)] = uint8(r.Uint32()), 0x80|uint8(r.Uint32())
		d.Parts = d.Parts[:2]
		for range 12 {
			place := uint64(r.IntN(few/4)) * 4
			raw := anyOf(r, api.OpCsrrw+r.IntN(6))&0x000fffff | one[uint32](r, 0x3a0, 0x3a2, 0x3b0+uint32(r.IntN(8)))<<20
			d.Parts = append(d.Parts, api.Seg{Addr: ram + place, Size: 4, Data: bytesOf(raw)})
		}
		around(t, d, func(was api.Whole, _ api.World, row api.Row, is api.Whole) {
			p, q := was.Cpu.Pmp, is.Cpu.Pmp
			for i := range 16 {
				if p.Cfg[i]&0x80 == 0 {
					continue
				}
				locked++
				before := i > 0 && p.Cfg[i]&0x18 == 8 && p.Addr[i-1] != q.Addr[i-1]
				if p.Cfg[i] != q.Cfg[i] || p.Addr[i] != q.Addr[i] || before {
					t.Fatalf("P4: %+v changes entry %d, which is locked", row, i)
				}
			}
			if p != q {
				writes++
			}
			if row.Mem == 0 {
				return
			}
			if i, _ := pmp.Match(p, row.Addr, row.Size); i >= 0 && p.Cfg[i]&0x80 != 0 && p.Cfg[i]&uint8(row.Mem) != uint8(row.Mem) {
				t.Fatalf("P4: %+v goes through entry %d, which is locked", row, i)
			}
		})
	}
	if locked < 5000 || writes < 500 {
		t.Errorf("%d entries were locked, %d writes: too few to tell", locked, writes)
	}
}

// TestP5Mprv: in M with MPRV and MPP U loads, stores and atomics are as in U; the Mode, and what a trap keeps of it, are M's.
func TestP5Mprv(t *testing.T) {
	r := random(16)
	done, faults := 0, 0
	for range 8000 {
		d := anyDeck(r, 1)
		d.Cpu = proper(d.Cpu)
		d.Cpu.Pc, d.Cpu.Mode, d.Cpu.Waiting, d.Cpu.Mie, d.Cpu.Mstatus = ram, api.U, false, 0, uxl
		copy(d.Cpu.Pmp.Cfg[1:], d.Cpu.Pmp.Cfg[:15])
		copy(d.Cpu.Pmp.Addr[1:], d.Cpu.Pmp.Addr[:15])
		d.Cpu.Pmp.Cfg[0], d.Cpu.Pmp.Addr[0] = 0x14, ram/4 // U may fetch the first word
		raw := anyOf(r, one(r, api.OpLb+r.IntN(11), api.OpLrW+r.IntN(api.Ops-api.OpLrW)))
		d.Parts = []api.Seg{{Addr: ram, Size: few, Data: bytesOf(raw)}}
		inU := made(t, d)
		d.Cpu.Mode, d.Cpu.Mstatus = api.M, uxl|1<<17
		inM := made(t, d)
		u, m := inU.Step(d.Worlds[0]), inM.Step(d.Worlds[0])
		a, b := inU.Whole(), inM.Whole()
		if m.Mode != api.M || m.NextMode != api.M || b.Cpu.Mstatus&^0x1800 != uxl|1<<17 || (b.Cpu.Mstatus&0x1800 != 0) != (m.Kind == api.RowException) {
			t.Fatalf("P5: %+v: the Cpu is\n%+v", m, b.Cpu)
		}
		u.Mode, u.NextMode = m.Mode, m.NextMode
		a.Cpu.Mode, a.Cpu.Mstatus = b.Cpu.Mode, b.Cpu.Mstatus
		if u != m || !sameWhole(a, b) {
			t.Fatalf("P5: the rows are in U\n%+v, in M\n%+v", u, m)
		}
		if m.Kind == api.RowRetire {
			done++
		} else {
			faults++
		}
	}
	if done < 1000 || faults < 1000 {
		t.Errorf("%d done, %d faults: too few to tell", done, faults)
	}
}

// TestP5Fetch: with MPRV and MPP U a load is U's, which has no entry, but fetches are M's.
func TestP5Fetch(t *testing.T) {
	d := sourced(t, 64, "lui t0, 0x20", "csrs mstatus, t0", "addi t1, t1, 1", "lw a0, 0(sp)")
	d.Cpu.X[2], d.Cpu.Mtvec, d.Worlds = ram, ram+32, worlds(4)
	rows := follows(t, d)
	if last := rows[3]; rows[2].Kind != api.RowRetire || last.Kind != api.RowException || last.Len != 4 || last.Cause != 5 || last.Tval != ram {
		t.Errorf("P5: the rows are %+v", rows)
	}
}

// TestP5Return: an MRET to U clears MPRV, one to M does not.
func TestP5Return(t *testing.T) {
	for _, mode := range []int{api.U, api.M} {
		d := sourced(t, 16, "mret")
		d.Cpu.Mstatus, d.Worlds = uxl|1<<17|uint64(mode)<<11, worlds(1)
		if c := played(t, d).Cpu; c.Mode != mode || (c.Mstatus>>17&1 == 1) != (mode == api.M) {
			t.Errorf("P5: behind an MRET the Cpu is %+v", c)
		}
	}
}

// TestP6Precise: a step that takes an exception changes what trap entry and the counters change, and what its world brought, and nothing else.
func TestP6Precise(t *testing.T) {
	r := random(17)
	n := 0
	for range 1500 {
		around(t, anyDeck(r, 30), func(was api.Whole, w api.World, row api.Row, is api.Whole) {
			if row.Kind != api.RowException {
				return
			}
			n++
			want := api.Whole{Cpu: trapped(was.Cpu, row.Cause, row.Tval), Bus: come(was.Bus, w)}
			if want.Cpu.Mcycle = was.Cpu.Mcycle; was.Cpu.Mcountinhibit&1 == 0 {
				want.Cpu.Mcycle++
			}
			if !sameWhole(is, want) {
				t.Fatalf("P6: behind %+v the whole is\n%+v, want\n%+v", row, is, want)
			}
		})
	}
	if n < 5000 {
		t.Errorf("%d exceptions: too few to tell", n)
	}
}

// reserved is what the rows so far say of the reservation, as P10 says it.
type reserved struct {
	is   bool
	addr uint64
	size int
}

// follow goes on by a row, and tells whether its sc, if it is one, must store.
func (s *reserved) follow(row api.Row, op, size int, addr uint64) (isSc, must bool) {
	isSc = row.Kind == api.RowRetire && (op == api.OpScW || op == api.OpScD)
	must = isSc && *s == reserved{true, addr, size}
	switch {
	case row.Kind == api.RowException || row.Kind == api.RowInterrupt, op == api.OpMret, isSc:
		*s = reserved{}
	case op == api.OpLrW || op == api.OpLrD:
		*s = reserved{true, row.Addr, row.Size}
	case row.Mem&api.W != 0 && (row.Addr-s.addr < uint64(s.size) || s.addr-row.Addr < uint64(row.Size)):
		*s = reserved{}
	}
	return isSc, must
}

// TestP10Atomics: an SC that passes its checks stores just if the rows ahead of it say so; an AMO is one step.
func TestP10Atomics(t *testing.T) {
	r := random(18)
	var sc [2]int
	for range 3000 {
		d := anyDeck(r, 40)
		d.Cpu.Mode, d.Cpu.Pmp, d.Cpu.Mie = api.M, api.Pmp{}, d.Cpu.Mie*uint64(r.IntN(2))
		d.Cpu.X[8], d.Cpu.X[9] = ram+few-8, ram+few-8+uint64(4*r.IntN(2))
		var code []uint32
		for range few / 4 {
			lr, sc := one[uint32](r, 0x1004252f, 0x1004252f, 0x1004352f, 0x1004a52f), one[uint32](r, 0x18a425af, 0x18a425af, 0x18a435af, 0x18a4a5af) // of s0, of s1
			code = append(code, one(r, lr, lr, sc, sc, anyOf(r, 1+r.IntN(api.Ops-1)), 0x00a42023, 0x00a40023, 0x00a4a52f))                           // sw and sb at s0, amoadd.w at s1
		}
		d.Parts[0].Data = bytesOf(code...)
		res := made(t, d).Whole().Cpu.Res
		s := reserved{res.Valid, res.Addr, res.Size}
		around(t, d, func(was api.Whole, _ api.World, row api.Row, is api.Whole) {
			in := decode.Decode(row.Raw)
			if row.Kind != api.RowRetire {
				in = api.Instr{}
			}
			isSc, must := s.follow(row, in.Op, sizeOf(in.Op), was.Cpu.X[in.Rs1])
			if !isSc {
				return
			}
			if (row.Mem == api.W) != must || in.Rd != 0 && is.Cpu.X[in.Rd] != truth(!must) {
				t.Fatalf("P10: the row is %+v, it must store: %v", row, must)
			}
			sc[truth(must)]++
		})
	}
	if sc[0] < 500 || sc[1] < 500 {
		t.Errorf("%v sc: too few to tell", sc)
	}
}

// sizeOf is the bytes that an SC reaches.
func sizeOf(op int) int {
	if op == api.OpScW {
		return 4
	}
	return 8
}

// TestP11Counting: as long as no instruction writes them and nothing is inhibited, Minstret counts the rows that retired, Mcycle all but those with the power off.
func TestP11Counting(t *testing.T) {
	r := random(19)
	n := 0
	for i := range 3000 {
		d := anyDeck(r, 40)
		if i%4 == 0 {
			d = ending(t, 1+r.IntN(10), 0x5555, 20)
		}
		d.Cpu.Mcountinhibit = 0
		d.Cpu.Mcycle, d.Cpu.Minstret = ones-uint64(r.IntN(30)), ones-uint64(r.IntN(30))
		tr := played(t, d)
		cycles, count := d.Cpu.Mcycle, d.Cpu.Minstret
		written := false
		for _, row := range tr.Rows {
			in := decode.Decode(row.Raw)
			written = written || in.Op >= api.OpCsrrw && in.Op <= api.OpCsrrci && (in.Imm == 0xb00 || in.Imm == 0xb02 || in.Imm == 0x320)
			if row.Kind == api.RowRetire {
				count++
			}
			if row.Kind != api.RowOff {
				cycles++
			}
		}
		if written {
			continue
		}
		if n++; tr.Cpu.Mcycle != cycles || tr.Cpu.Minstret != count {
			t.Fatalf("P11: the counters are %#x and %#x, want %#x and %#x", tr.Cpu.Mcycle, tr.Cpu.Minstret, cycles, count)
		}
	}
	if n < 1000 {
		t.Errorf("%d plays: too few to tell", n)
	}
}
