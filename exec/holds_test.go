package exec_test

import (
	"math"
	"math/rand/v2"
	"runtime"
	"slices"
	"testing"

	"anvil/api"
	"anvil/bus"
	"anvil/exec"
)

// wild is a record of any numbers.
func wild(r *rand.Rand) api.Instr {
	n := func() int { return int(r.Uint64()) >> r.IntN(64) }
	return api.Instr{Op: n(), Rd: n(), Rs1: n(), Rs2: n(), Imm: int64(r.Uint64()), Len: n(), Raw: r.Uint32()}
}

// TestP12_5Proper: whatever record and Cpu: Do ends, its Cpu is proper, and it answers what it answers of the proper Cpu.
func TestP12_5Proper(t *testing.T) {
	r := random(4)
	for i := range 60000 {
		c, in := anyCpu(r), anyInstr(r)
		if i%8 == 0 {
			in = wild(r)
		}
		b, twin := of(t, rich(little)), of(t, rich(little))
		got, want := do(c, b, in), do(modelProper(c), twin, in)
		if got.cpu != modelProper(got.cpu) {
			t.Fatalf("%+v of %+v answers a Cpu that is not proper:\n%+v", in, c, got.cpu)
		}
		if got != want || !sameState(b.State(), twin.State()) {
			t.Fatalf("%+v of %+v answers\n%+v, of the proper one\n%+v", in, c, got, want)
		}
	}
}

// TestP12_5Parts: what is made proper counts: an odd Pc, an X[0], a mode and an MPP that are none, W without R, a reservation that cannot be.
func TestP12_5Parts(t *testing.T) {
	b := of(t, rich(little))
	c := with(at(machine(), ram+1), ram, 5)
	c.X[0] = 3
	gives(t, c, b, api.Instr{Op: api.OpAuipc, Rd: 3, Len: 4}, ram+4, api.Done{Rd: 3, Val: ram})
	gives(t, c, b, api.Instr{Op: api.OpJal, Rd: 3, Imm: 1, Len: 2}, ram, api.Done{Rd: 3, Val: ram + 2})
	stops(t, c, b, api.Instr{Op: api.OpEbreak, Len: 4}, 3, ram)
	c.Mode = 1
	stops(t, c, b, api.Instr{Op: api.OpMret, Len: 4, Raw: 8}, 2, 8)
	stops(t, with(user(2), ram), b, api.Instr{Op: api.OpSb, Rs1: 1, Len: 4}, 7, ram)
	for _, before := range []uint64{1 << 11, 2 << 11} {
		c := with(borrowed(user(0)), ram)
		c.Mstatus |= before
		stops(t, c, b, api.Instr{Op: api.OpLb, Rs1: 1, Len: 4}, 5, ram)
	}
	for _, res := range []api.Res{{Valid: true, Addr: ram, Size: 2}, {Addr: ram, Size: 4}, {Valid: true, Addr: ram + 1, Size: 4}} {
		c := with(machine(), ram, 5)
		c.Res = res
		gives(t, c, b, api.Instr{Op: api.OpScW, Rd: 3, Rs1: 1, Rs2: 2, Len: 4}, ram+4, api.Done{Rd: 3, Val: 1})
		gives(t, c, b, api.Instr{Op: api.OpFence, Len: 4}, ram+4, api.Done{})
	}
	there(t, b, ram, 4, 0x83828180)
}

// TestP12_6Precise: with an exception neither the Cpu nor the bus has changed, and all else of Done is 0; without one Trap is 0. (P12.1, P12.2)
func TestP12_6Precise(t *testing.T) {
	r := random(5)
	var trapped, done [api.Ops]int
	for range 120000 {
		c, in := anyCpu(r), anyInstr(r)
		b := of(t, rich(little))
		got := do(c, b, in)
		stop := got.done.Trap
		if !stop.Is && stop != (api.Trap{}) {
			t.Fatalf("%+v of %+v: Trap is %+v", in, c, stop)
		}
		op := max(0, min(in.Op, api.Ops-1))
		if !stop.Is {
			done[op]++
			continue
		}
		trapped[op]++
		if want := (answer{modelProper(c), stopped(stop.Cause, stop.Tval)}); got != want {
			t.Fatalf("%+v of %+v answers\n%+v, want\n%+v", in, c, got, want)
		}
		if !sameState(rich(little), b.State()) {
			t.Fatalf("%+v of %+v has an exception, and the bus is\n%+v", in, c, b.State())
		}
	}
	for op := 1; op < api.Ops; op++ {
		if always := op == api.OpEcall || op == api.OpEbreak; trapped[op] == 0 || done[op] == 0 && !always {
			t.Errorf("operation %d trapped %d times and did not %d times: too few to tell", op, trapped[op], done[op])
		}
	}
}

// keptOf is a Cpu without Pc, X, Waiting, Res and, of those that MRET may change, Mode and Mstatus.
func keptOf(c api.Cpu) api.Cpu {
	c.Pc, c.X, c.Waiting, c.Res, c.Mode, c.Mstatus = 0, [32]uint64{}, false, api.Res{}, 0, 0
	return c
}

// TestP12_7Cpu: without an exception X changes at Rd alone, the CSRs and entries by CSR instructions alone (Mstatus and Mode by MRET too), Res by LR, stores, SC, AMO and MRET.
func TestP12_7Cpu(t *testing.T) {
	r := random(6)
	for range 100000 {
		c, in := modelProper(anyCpu(r)), anyInstr(r)
		d, done := exec.Do(c, of(t, rich(little)), in)
		if done.Trap.Is {
			continue
		}
		name := familyOf(in.Op)
		x := c.X
		if in.Rd != 0 {
			x[in.Rd] = d.X[in.Rd]
		}
		if x != d.X || done.Rd != 0 && (done.Rd != in.Rd || d.X[in.Rd] != done.Val) {
			t.Fatalf("%+v: X was\n%v, is\n%v, Done %+v", in, c.X, d.X, done)
		}
		if done.Rd == 0 && (done.Val != 0 || d.X != c.X) {
			t.Fatalf("%+v tells no register: X was\n%v, is\n%v, Done %+v", in, c.X, d.X, done)
		}
		if name != "csr" && keptOf(c) != keptOf(d) {
			t.Fatalf("%+v: what is kept was\n%+v, is\n%+v", in, c, d)
		}
		if name != "csr" && name != "mret" && c.Mstatus != d.Mstatus || name != "mret" && c.Mode != d.Mode {
			t.Fatalf("%+v: Mstatus and Mode were %#x, %d, are %#x, %d", in, c.Mstatus, c.Mode, d.Mstatus, d.Mode)
		}
		if c.Res != d.Res && !slices.Contains([]string{"lr", "store", "sc", "amo", "mret"}, name) {
			t.Fatalf("%+v: Res was %+v, is %+v", in, c.Res, d.Res)
		}
	}
}

// deviceOf is the number of the device at an address, in the order of sameDevices: -1, if none is there.
func deviceOf(addr uint64) int {
	switch {
	case addr == finisher:
		return 0
	case addr == msip:
		return 1
	case addr == mtimecmp, addr == mtimecmp+4:
		return 2
	case addr == mtime, addr == mtime+4:
		return 3
	case addr >= console && addr < console+8:
		return 4
	}
	return -1
}

// reaching is a Cpu and a record that is, every other time, a load or a store of a device.
func reaching(r *rand.Rand) (api.Cpu, api.Instr) {
	c, in := anyCpu(r), anyInstr(r)
	if r.IntN(2) == 0 {
		return c, in
	}
	all := opsOf("load", "store")
	in.Op, in.Rs1, in.Imm = all[r.IntN(len(all))], 1, 0
	c.X[1] = [...]uint64{finisher, msip, mtimecmp, mtimecmp + 4, mtime, mtime + 4, console, console + uint64(r.IntN(8))}[r.IntN(8)]
	if r.IntN(2) == 0 {
		c.Mode, c.Mstatus, c.Pmp = api.M, 0, api.Pmp{}
	}
	if r.IntN(3) == 0 {
		c.X[in.Rs2&7] = 0x5555
		c.X[1] = finisher
	}
	return c, in
}

// TestP12_7Bus: the bus changes by loads, stores, SC and AMO alone: of RAM the bytes that Done tells, else the one device that it tells.
func TestP12_7Bus(t *testing.T) {
	r := random(7)
	bytes, devices := 0, [5]int{}
	for range 120000 {
		c, in := reaching(r)
		b := of(t, rich(little))
		_, done := exec.Do(c, b, in)
		was, is := rich(little), b.State()
		for i := range was.Ram {
			if was.Ram[i] == is.Ram[i] {
				continue
			}
			bytes++
			if where := ram + uint64(i); done.Mem&api.W == 0 || where-done.Addr >= uint64(done.Size) {
				t.Fatalf("%+v: byte %d has changed, and Done is %+v", in, i, done)
			}
		}
		for i, same := range sameDevices(was, is) {
			if same {
				continue
			}
			devices[i]++
			if deviceOf(done.Addr) != i || done.Mem != api.R && done.Mem != api.W {
				t.Fatalf("%+v: device %d has changed, and Done is %+v", in, i, done)
			}
		}
		if name := familyOf(in.Op); done.Mem != 0 && !slices.Contains([]string{"load", "store", "lr", "sc", "amo"}, name) {
			t.Fatalf("%+v: Done is %+v", in, done)
		}
	}
	for i, n := range devices {
		if n < 50 || bytes < 1000 {
			t.Errorf("device %d changed %d times, %d bytes of RAM did: too few to tell", i, n, bytes)
		}
	}
}

// TestP12_7Told: Done tells what stands in memory behind a store, SC or AMO.
func TestP12_7Told(t *testing.T) {
	r := random(8)
	told := 0
	for range 60000 {
		c, in := anyCpu(r), anyInstr(r)
		b := of(t, rich(little))
		_, done := exec.Do(c, b, in)
		if done.Mem&api.W == 0 || !b.IsRam(done.Addr, done.Size) {
			continue
		}
		told++
		there(t, b, done.Addr, done.Size, done.Data)
	}
	if told < 1000 {
		t.Errorf("%d stores: too few to tell", told)
	}
}

// TestP12_8Length: of two records that differ in Len and Raw alone the answers differ in Pc where it is Pc + Len, in what a jump links, and in the tval of an illegal instruction.
func TestP12_8Length(t *testing.T) {
	r := random(9)
	for range 80000 {
		c, in := anyCpu(r), anyInstr(r)
		short, long := in, in
		short.Len, long.Len = 2, 4
		long.Raw = r.Uint32()
		b, twin := of(t, rich(little)), of(t, rich(little))
		got, want := do(c, b, short), do(c, twin, long)
		if !sameState(b.State(), twin.State()) {
			t.Fatalf("%+v and with Len 4: the buses are\n%+v and\n%+v", short, b.State(), twin.State())
		}
		pc := modelProper(c).Pc
		name := familyOf(in.Op)
		switch {
		case got.done.Trap.Is:
			if got.done.Trap.Cause == 2 && got.done.Trap.Tval == uint64(short.Raw) && want.done.Trap.Tval == uint64(long.Raw) {
				want.done.Trap.Tval = uint64(short.Raw)
			}
		case name == "jal" || name == "jalr":
			if in.Rd != 0 && got.done.Val == pc+2 && want.done.Val == pc+4 {
				want.done.Val, want.cpu.X[in.Rd] = pc+2, pc+2
			}
		case got.cpu.Pc == pc+2 && want.cpu.Pc == pc+4 && name != "mret":
			want.cpu.Pc = pc + 2
		}
		if got != want {
			t.Fatalf("%+v and with Len 4 answer\n%+v and\n%+v", short, got, want)
		}
	}
}

// panicOf is what Do panics with: nil, if it does not.
func panicOf(c api.Cpu, b *bus.Bus, in api.Instr) (cause any) {
	defer func() { cause = recover() }()
	exec.Do(c, b, in)
	return nil
}

// TestP12_1Panic: a panic that is no exception is not swallowed. Without a bus an instruction that needs it can't be done, and no answer hides it.
func TestP12_1Panic(t *testing.T) {
	for _, op := range opsOf("load", "store", "lr", "sc", "amo", "csr") {
		cause := panicOf(with(machine(), ram), nil, api.Instr{Op: op, Rd: 1, Rs1: 1, Imm: 0x340, Len: 4})
		if _, is := cause.(runtime.Error); !is {
			t.Errorf("operation %d without a bus: the panic is %v", op, cause)
		}
	}
	for _, op := range opsOf("load", "store", "lr", "sc", "amo") {
		in := api.Instr{Op: op, Rd: 1, Rs1: 1, Len: 4}
		if cause := panicOf(with(user(0), ram), nil, in); cause != nil {
			t.Errorf("operation %d, which protection forbids ahead of the bus: the panic is %v", op, cause)
		}
	}
}

// TestRule1Exec: no call panics, whatever it is given.
func TestRule1Exec(t *testing.T) {
	r := random(10)
	for i := range 60000 {
		in := anyInstr(r)
		if i%4 == 0 {
			in = wild(r)
		}
		if i%16 == 0 {
			in.Imm = [...]int64{math.MinInt64, math.MaxInt64, -1, 0}[r.IntN(4)]
		}
		if cause := panicOf(anyCpu(r), of(t, rich(8)), in); cause != nil {
			t.Fatalf("%+v: the panic is %v", in, cause)
		}
	}
}

// TestRule4Exec: the same call answers the same.
func TestRule4Exec(t *testing.T) {
	r := random(11)
	for range 20000 {
		c, in := anyCpu(r), anyInstr(r)
		b, twin := of(t, rich(little)), of(t, rich(little))
		if got, again := do(c, b, in), do(c, twin, in); got != again || !sameState(b.State(), twin.State()) {
			t.Fatalf("%+v answers\n%+v, then\n%+v", in, got, again)
		}
	}
}
