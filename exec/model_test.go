package exec_test

import (
	"slices"
	"testing"

	"anvil/access"
	"anvil/api"
	"anvil/arith"
	"anvil/bus"
	"anvil/csr"
	"anvil/trap"
)

// The model: the chapter's table, row by row. Where it names a call of a layer below, the model makes that call.

// pick is the bits of v whose numbers are told, and no other.
func pick(v uint64, numbers ...int) uint64 {
	sum := uint64(0)
	for _, n := range numbers {
		if v>>n%2 == 1 {
			sum += 1 << n
		}
	}
	return sum
}

func modelProper(c api.Cpu) api.Cpu {
	d := api.Cpu{Waiting: c.Waiting}
	d.Pc = c.Pc / 2 * 2
	copy(d.X[1:], c.X[1:])
	if c.Mode == 3 {
		d.Mode = 3
	}
	d.Mstatus = pick(c.Mstatus, 3, 7, 17, 21) + 2*(1<<32)
	if c.Mstatus>>11%4 == 3 {
		d.Mstatus += 3 * (1 << 11)
	}
	d.Mtvec = c.Mtvec - pick(c.Mtvec, 1)
	d.Mie = pick(c.Mie, 3, 7, 11)
	d.Mcounteren = pick(c.Mcounteren, 0, 1, 2)
	d.Mcountinhibit = pick(c.Mcountinhibit, 0, 2)
	d.Menvcfg = pick(c.Menvcfg, 0)
	d.Mscratch, d.Mcause, d.Mtval, d.Mcycle, d.Minstret = c.Mscratch, c.Mcause, c.Mtval, c.Mcycle, c.Minstret
	d.Mepc = c.Mepc / 2 * 2
	for i := range 16 {
		b := c.Pmp.Cfg[i]
		if b%4 == 2 {
			b -= 2
		}
		d.Pmp.Cfg[i] = uint8(pick(uint64(b), 0, 1, 2, 3, 4, 7))
		d.Pmp.Addr[i] = c.Pmp.Addr[i] % (1 << 54)
	}
	if c.Res.Valid && (c.Res.Size == 4 && c.Res.Addr%4 == 0 || c.Res.Size == 8 && c.Res.Addr%8 == 0) {
		d.Res = c.Res
	}
	return d
}

// family is operations of which the chapter says one thing; with an access they all have a size each.
type family struct {
	name  string
	ops   []int
	sizes []int
}

func families() []family {
	return []family{
		{"lui", []int{api.OpLui}, nil},
		{"auipc", []int{api.OpAuipc}, nil},
		{"jal", []int{api.OpJal}, nil},
		{"jalr", []int{api.OpJalr}, nil},
		{"branch", []int{api.OpBeq, api.OpBne, api.OpBlt, api.OpBge, api.OpBltu, api.OpBgeu}, nil},
		{"load", []int{api.OpLb, api.OpLh, api.OpLw, api.OpLd, api.OpLbu, api.OpLhu, api.OpLwu}, []int{1, 2, 4, 8, 1, 2, 4}},
		{"store", []int{api.OpSb, api.OpSh, api.OpSw, api.OpSd}, []int{1, 2, 4, 8}},
		{"immediate", []int{
			api.OpAddi, api.OpSlti, api.OpSltiu, api.OpXori, api.OpOri, api.OpAndi, api.OpSlli, api.OpSrli, api.OpSrai,
			api.OpAddiw, api.OpSlliw, api.OpSrliw, api.OpSraiw,
		}, nil},
		{"registers", []int{
			api.OpAdd, api.OpSub, api.OpSll, api.OpSlt, api.OpSltu, api.OpXor, api.OpSrl, api.OpSra, api.OpOr, api.OpAnd,
			api.OpAddw, api.OpSubw, api.OpSllw, api.OpSrlw, api.OpSraw,
			api.OpMul, api.OpMulh, api.OpMulhsu, api.OpMulhu, api.OpDiv, api.OpDivu, api.OpRem, api.OpRemu,
			api.OpMulw, api.OpDivw, api.OpDivuw, api.OpRemw, api.OpRemuw,
		}, nil},
		{"fence", []int{api.OpFence, api.OpFenceI}, nil},
		{"ecall", []int{api.OpEcall}, nil},
		{"ebreak", []int{api.OpEbreak}, nil},
		{"mret", []int{api.OpMret}, nil},
		{"wfi", []int{api.OpWfi}, nil},
		{"csr", []int{api.OpCsrrw, api.OpCsrrs, api.OpCsrrc, api.OpCsrrwi, api.OpCsrrsi, api.OpCsrrci}, nil},
		{"lr", []int{api.OpLrW, api.OpLrD}, []int{4, 8}},
		{"sc", []int{api.OpScW, api.OpScD}, []int{4, 8}},
		{"amo", []int{
			api.OpAmoswapW, api.OpAmoaddW, api.OpAmoxorW, api.OpAmoandW, api.OpAmoorW,
			api.OpAmominW, api.OpAmomaxW, api.OpAmominuW, api.OpAmomaxuW,
			api.OpAmoswapD, api.OpAmoaddD, api.OpAmoxorD, api.OpAmoandD, api.OpAmoorD,
			api.OpAmominD, api.OpAmomaxD, api.OpAmominuD, api.OpAmomaxuD,
		}, []int{4, 4, 4, 4, 4, 4, 4, 4, 4, 8, 8, 8, 8, 8, 8, 8, 8, 8}},
	}
}

// row is what the families say of one operation.
type row struct {
	name string
	size int
}

// rows is the families by operation; it is made once, since every test asks it.
var rows = func() [api.Ops]row {
	var all [api.Ops]row
	for _, f := range families() {
		for i, op := range f.ops {
			all[op].name = f.name
			if f.sizes != nil {
				all[op].size = f.sizes[i]
			}
		}
	}
	return all
}()

// familyOf is an operation's family: nothing, if it has none.
func familyOf(op int) string {
	if op < 0 || op >= api.Ops {
		return ""
	}
	return rows[op].name
}

// sizeOf is the bytes that an operation moves: 0, if it moves none.
func sizeOf(op int) int { return rows[op].size }

// opsOf is the operations of some families.
func opsOf(names ...string) []int {
	var all []int
	for _, f := range families() {
		if slices.Contains(names, f.name) {
			all = append(all, f.ops...)
		}
	}
	return all
}

// gets is "rd gets v".
func (a *answer) gets(rd int, v uint64) {
	if rd != 0 {
		a.cpu.X[rd] = v
		a.done.Rd = rd
		a.done.Val = v
	}
}

// modelDo is what an instruction must answer; the bus is changed as it must be.
func modelDo(c api.Cpu, b *bus.Bus, in api.Instr) answer {
	c = modelProper(c)
	within := func(n int) bool { return n >= 0 && n <= 31 }
	can := in.Op >= 1 && in.Op < api.Ops && within(in.Rd) && within(in.Rs1) && within(in.Rs2)
	if !can || in.Len != 2 && in.Len != 4 {
		return answer{c, stopped(2, uint64(in.Raw))}
	}
	switch familyOf(in.Op) {
	case "load", "store", "lr", "sc", "amo":
		return modelMemory(c, b, in)
	case "csr":
		return modelCsr(c, b, in)
	case "ecall", "ebreak", "mret", "wfi":
		return modelSystem(c, in)
	}
	return modelPlain(c, in)
}

func modelPlain(c api.Cpu, in api.Instr) answer {
	x, y, imm := c.X[in.Rs1], c.X[in.Rs2], uint64(in.Imm)
	link := c.Pc + uint64(in.Len)
	a := answer{cpu: c}
	a.cpu.Pc = link
	switch familyOf(in.Op) {
	case "lui":
		a.gets(in.Rd, imm)
	case "auipc":
		a.gets(in.Rd, c.Pc+imm)
	case "jal":
		a.gets(in.Rd, link)
		a.cpu.Pc = (c.Pc + imm) / 2 * 2
	case "jalr":
		a.gets(in.Rd, link)
		a.cpu.Pc = (x + imm) / 2 * 2
	case "branch":
		if taken, _ := arith.Taken(in.Op, x, y); taken {
			a.cpu.Pc = (c.Pc + imm) / 2 * 2
		}
	case "immediate":
		v, _ := arith.Compute(in.Op, x, imm)
		a.gets(in.Rd, v)
	case "registers":
		v, _ := arith.Compute(in.Op, x, y)
		a.gets(in.Rd, v)
	}
	return a
}

func modelMemory(c api.Cpu, b *bus.Bus, in api.Instr) answer {
	x, y, size := c.X[in.Rs1], c.X[in.Rs2], sizeOf(in.Op)
	name := familyOf(in.Op)
	a := answer{cpu: c}
	where, mem, data := x, api.R, uint64(0)
	var v uint64
	var stop api.Trap
	var stored bool
	switch name {
	case "load":
		where = x + uint64(in.Imm)
		v, stop = access.Load(c, b, where, size)
	case "store":
		where, mem, data = x+uint64(in.Imm), api.W, low(y, size)
		a.cpu, stop = access.Store(c, b, where, size, y)
	case "lr":
		v, a.cpu, stop = access.Reserve(c, b, where, size)
	case "sc":
		mem, data = api.W, low(y, size)
		stored, a.cpu, stop = access.Conditional(c, b, where, size, y)
		if !stored {
			v = 1
		}
	case "amo":
		mem = api.R + api.W
		v, data, a.cpu, stop = access.Amo(c, b, in.Op, where, y)
	}
	if stop.Is {
		return answer{c, api.Done{Trap: stop}}
	}
	if name == "lr" || name == "amo" || slices.Contains([]int{api.OpLb, api.OpLh, api.OpLw}, in.Op) {
		v = signed(v, size)
	}
	a.cpu.Pc += uint64(in.Len)
	if name != "store" {
		a.gets(in.Rd, v)
	}
	if name != "sc" || stored {
		a.done.Mem, a.done.Addr, a.done.Size, a.done.Data = mem, where, size, data
	}
	return a
}

func modelSystem(c api.Cpu, in api.Instr) answer {
	illegal := answer{c, stopped(2, uint64(in.Raw))}
	switch familyOf(in.Op) {
	case "ecall":
		return answer{c, stopped(uint64(8+c.Mode), 0)}
	case "ebreak":
		return answer{c, stopped(3, c.Pc)}
	case "mret":
		if d, legal := trap.Return(c); legal {
			return answer{cpu: d}
		}
	case "wfi":
		if d, legal := trap.Wait(c); legal {
			d.Pc += uint64(in.Len)
			return answer{cpu: d}
		}
	}
	return illegal
}

func modelCsr(c api.Cpu, b *bus.Bus, in api.Instr) answer {
	n := int(in.Imm)
	old, legal := csr.Read(c, b.Mip(), b.Time(), n)
	if !legal {
		return answer{c, stopped(2, uint64(in.Raw))}
	}
	v := c.X[in.Rs1]
	if slices.Contains([]int{api.OpCsrrwi, api.OpCsrrsi, api.OpCsrrci}, in.Op) {
		v = uint64(in.Rs1)
	}
	writes := in.Rs1 != 0
	switch in.Op {
	case api.OpCsrrw, api.OpCsrrwi:
		writes = true
	case api.OpCsrrs, api.OpCsrrsi:
		v = old | v
	case api.OpCsrrc, api.OpCsrrci:
		v = old & ^v
	}
	a := answer{cpu: c}
	if writes {
		if a.cpu, legal = csr.Write(c, n, v); !legal {
			return answer{c, stopped(2, uint64(in.Raw))}
		}
		a.done.WroteCycle, a.done.WroteCount = n == 0xb00, n == 0xb02
	}
	a.cpu.Pc += uint64(in.Len)
	a.gets(in.Rd, old)
	return a
}

// asModel does an instruction on a bus of this state, and holds all that it answers and the bus behind it against the model.
func asModel(t *testing.T, c api.Cpu, s api.Bus, in api.Instr) answer {
	t.Helper()
	b, twin := of(t, s), of(t, s)
	got, want := do(c, b, in), modelDo(c, twin, in)
	if got != want {
		t.Fatalf("%+v of %+v answers\n%+v, want\n%+v", in, c, got, want)
	}
	if !sameState(b.State(), twin.State()) {
		t.Fatalf("%+v of %+v: the bus is\n%+v, want\n%+v", in, c, b.State(), twin.State())
	}
	return got
}

// TestModel: the families have each operation of api once.
func TestModel(t *testing.T) {
	var all []int
	for _, f := range families() {
		all = append(all, f.ops...)
	}
	slices.Sort(all)
	for i := range api.Ops - 1 {
		if len(all) != api.Ops-1 || all[i] != i+1 {
			t.Fatalf("the families have %d operations: %v", len(all), all)
		}
	}
}
