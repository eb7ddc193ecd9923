package hart_test

import (
	"slices"
	"testing"

	"anvil/api"
	"anvil/decode"
	"anvil/exec"
	"anvil/pmp"
)

// The model: DOC.md's section "One step" in its order, on states of a bus. What an instruction that is known does is exec's, what passes the entries is pmp's; all else is said here once more.

// pick is the bits of v whose numbers are told, and no other.
func pick(v uint64, numbers ...int) uint64 {
	sum := uint64(0)
	for _, n := range numbers {
		if v>>n%2 == 1 {
			sum += 1 << n
		}
	}
	return sum
}

func modelProper(c api.Cpu) api.Cpu {
	d := api.Cpu{Waiting: c.Waiting}
	d.Pc = c.Pc / 2 * 2
	copy(d.X[1:], c.X[1:])
	if c.Mode == 3 {
		d.Mode = 3
	}
	d.Mstatus = pick(c.Mstatus, 3, 7, 17, 21) + 2*(1<<32)
	if c.Mstatus>>11%4 == 3 {
		d.Mstatus += 3 * (1 << 11)
	}
	d.Mtvec = c.Mtvec - pick(c.Mtvec, 1)
	d.Mie = pick(c.Mie, 3, 7, 11)
	d.Mcounteren = pick(c.Mcounteren, 0, 1, 2)
	d.Mcountinhibit = pick(c.Mcountinhibit, 0, 2)
	d.Menvcfg = pick(c.Menvcfg, 0)
	d.Mscratch, d.Mcause, d.Mtval, d.Mcycle, d.Minstret = c.Mscratch, c.Mcause, c.Mtval, c.Mcycle, c.Minstret
	d.Mepc = c.Mepc / 2 * 2
	for i := range 16 {
		b := c.Pmp.Cfg[i]
		if b%4 == 2 {
			b -= 2
		}
		d.Pmp.Cfg[i] = uint8(pick(uint64(b), 0, 1, 2, 3, 4, 7))
		d.Pmp.Addr[i] = c.Pmp.Addr[i] % (1 << 54)
	}
	if c.Res.Valid && (c.Res.Size == 4 && c.Res.Addr%4 == 0 || c.Res.Size == 8 && c.Res.Addr%8 == 0) {
		d.Res = c.Res
	}
	return d
}

// modelBegin is the state behind the world's coming.
func modelBegin(s api.Bus, w api.World) api.Bus {
	s.Input = slices.Clone(s.Input)
	for _, one := range w.Input {
		if len(s.Input) < 64 {
			s.Input = append(s.Input, one)
		} else {
			s.Overrun = true
		}
	}
	s.Ext, s.Soft = w.Ext, w.Soft
	if w.Tick {
		s.Mtime++
	}
	return s
}

func modelMip(s api.Bus) uint64 {
	sum := uint64(0)
	if s.Msip == 1 || s.Soft {
		sum += 8
	}
	if s.Mtime >= s.Mtimecmp {
		sum += 0x80
	}
	if s.Ext || s.Ier%2 == 1 && len(s.Input) > 0 {
		sum += 0x800
	}
	return sum
}

// modelPending is the number of the interrupt that is to be taken: 0, if there is none.
func modelPending(c api.Cpu, mip uint64) uint64 {
	if c.Mode == 3 && pick(c.Mstatus, 3) == 0 {
		return 0
	}
	for _, n := range []int{11, 3, 7} {
		if pick(mip, n) != 0 && pick(c.Mie, n) != 0 {
			return uint64(n)
		}
	}
	return 0
}

func modelEnter(c api.Cpu, cause, tval uint64) api.Cpu {
	status := c.Mstatus - pick(c.Mstatus, 3, 7, 11, 12) // MPRV, TW and UXL stay
	status += pick(c.Mstatus, 3) << 4
	if c.Mode == 3 {
		status += 3 << 11
	}
	c.Mepc, c.Mcause, c.Mtval, c.Mstatus = c.Pc, cause, tval, status
	c.Mode, c.Waiting, c.Res = 3, false, api.Res{}
	c.Pc = c.Mtvec / 4 * 4
	if cause>>63 == 1 && c.Mtvec%2 == 1 {
		c.Pc += 4 * (cause - 1<<63)
	}
	return c
}

// modelParcel is the parcel at an address; false: it can't be fetched.
func modelParcel(c api.Cpu, s api.Bus, addr uint64) (uint32, bool) {
	place := addr - ram
	if !pmp.Check(c.Pmp, c.Mode, addr, 2, api.X) || place > uint64(len(s.Ram)-2) {
		return 0, false
	}
	return uint32(s.Ram[place]) + 256*uint32(s.Ram[place+1]), true
}

func modelFetch(c api.Cpu, s api.Bus) (uint32, int, api.Trap) {
	first, is := modelParcel(c, s, c.Pc)
	if !is {
		return 0, 0, api.Trap{Is: true, Cause: 1, Tval: c.Pc}
	}
	if first%4 != 3 {
		return first, 2, api.Trap{}
	}
	second, is := modelParcel(c, s, c.Pc+2)
	if !is {
		return 0, 0, api.Trap{Is: true, Cause: 1, Tval: c.Pc + 2}
	}
	return second*65536 + first, 4, api.Trap{}
}

// writes tells whether an instruction that retired writes the CSR n.
func writes(in api.Instr, n int64) bool {
	if in.Op < api.OpCsrrw || in.Op > api.OpCsrrci || in.Imm != n {
		return false
	}
	return in.Op == api.OpCsrrw || in.Op == api.OpCsrrwi || in.Rs1 != 0
}

// modelStep is what a step must answer, and the state of the bus behind it.
func modelStep(t *testing.T, c api.Cpu, s api.Bus, w api.World) (api.Cpu, api.Row, api.Bus) {
	was := modelProper(c)
	r := row(was, api.RowOff)
	if s.Off != 0 {
		return was, r, s
	}
	s = modelBegin(s, w)
	c, in := was, api.Instr{}
	mip := modelMip(s)
	if c.Waiting && mip&c.Mie == 0 {
		r.Kind = api.RowWait
	} else if n := modelPending(c, mip); n != 0 {
		r.Kind, r.Cause = api.RowInterrupt, 1<<63+n
		c = modelEnter(c, r.Cause, 0)
	} else {
		c.Waiting = false
		c, r, s, in = modelInstruction(t, c, r, s)
	}
	if pick(was.Mcountinhibit, 0) == 0 && !(r.Kind == api.RowRetire && writes(in, 0xb00)) {
		c.Mcycle++
	}
	if pick(was.Mcountinhibit, 2) == 0 && r.Kind == api.RowRetire && !writes(in, 0xb02) {
		c.Minstret++
	}
	r.Next, r.NextMode = c.Pc, c.Mode
	return c, r, s
}

// modelInstruction is what the instruction at Pc makes of the Cpu, the row and the state, and its record.
func modelInstruction(t *testing.T, c api.Cpu, r api.Row, s api.Bus) (api.Cpu, api.Row, api.Bus, api.Instr) {
	raw, length, stop := modelFetch(c, s)
	var in api.Instr
	var done api.Done
	d := c
	if !stop.Is {
		r.Raw, r.Len = raw, length
		in = decode.Decode(raw)
		stop = api.Trap{Is: in.Op == 0, Cause: 2, Tval: uint64(raw)}
	}
	if !stop.Is {
		b := of(t, s)
		d, done = exec.Do(c, b, in)
		stop, s = done.Trap, b.State()
	}
	if stop.Is {
		r.Kind, r.Cause, r.Tval = api.RowException, stop.Cause, stop.Tval
		return modelEnter(c, stop.Cause, stop.Tval), r, s, in
	}
	r.Kind, r.Rd, r.Val = api.RowRetire, done.Rd, done.Val
	r.Mem, r.Addr, r.Size, r.Data = done.Mem, done.Addr, done.Size, done.Data
	return d, r, s, in
}
