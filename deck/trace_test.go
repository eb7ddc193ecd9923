package deck_test

import (
	"errors"
	"fmt"
	"math"
	"slices"
	"strings"
	"testing"

	"anvil/api"
	"anvil/csr"
	"anvil/deck"
	"anvil/speak"
)

// quiet is the trace without rows of a Cpu that has nothing set.
func quiet() api.Trace { return api.Trace{Cpu: plain(8).Cpu} }

// tellsTrace: a trace must have this text, and the text must read back as it.
func tellsTrace(t *testing.T, tr api.Trace, want string) {
	t.Helper()
	if text, why := deck.PrintTrace(tr); text != want || why != api.OK {
		t.Errorf("P14.4: %q, error %d, want %q", shown(text), why, shown(want))
	}
	if got, err := deck.ParseTrace(want); err != nil || !sameTrace(got, tr) {
		t.Errorf("P14.5: %q is\n%+v, %v, want\n%+v", shown(want), got, err, tr)
	}
}

// tellsRow: a row must have this line.
func tellsRow(t *testing.T, row api.Row, want string) {
	t.Helper()
	tr := quiet()
	tr.Rows = []api.Row{row}
	tellsTrace(t, tr, joined("anvil trace 1", want, "end running", "pc 0x80000000", "mode m"))
}

// noTrace: a text must be refused at this line.
func noTrace(t *testing.T, text string, line int) {
	t.Helper()
	tr, err := deck.ParseTrace(text)
	var f *api.Fault
	switch {
	case !errors.As(err, &f) || !errors.Is(err, api.ErrTrace) || *f != api.Fault{Line: line, Why: api.ErrTrace}:
		t.Errorf("P14.5: %q: %v, want line %d", shown(text), err, line)
	case !sameTrace(tr, api.Trace{}) || tr.Rows != nil || tr.Output != nil:
		t.Errorf("P14.5: %q: a trace beside the fault: %+v", shown(text), tr)
	}
}

// TestP14_4Rows: each kind, mode and field of a row, present and absent.
func TestP14_4Rows(t *testing.T) {
	least := api.Row{Kind: api.RowOff}
	tellsRow(t, least, "0 off u 0x0 -> u 0x0")
	for kind, name := range map[int]string{1: "retire", 2: "exception", 3: "interrupt", 4: "wait", 5: "off"} {
		tellsRow(t, api.Row{Step: 12, Kind: kind, Mode: 3, Pc: 0xabc, Next: 0xdef}, "12 "+name+" m 0xabc -> u 0xdef")
		tellsRow(t, api.Row{Step: 9, Kind: kind, Pc: 1, Next: 3, NextMode: 3}, "9 "+name+" u 0x1 -> m 0x3")
	}
	one := func(change func(row *api.Row), want string) {
		t.Helper()
		row := least
		change(&row)
		tellsRow(t, row, "0 off u 0x0 "+want+"-> u 0x0"+map[bool]string{true: " ; " + speak.Print(row.Raw, 0)}[row.Len != 0])
	}
	one(func(row *api.Row) { row.Raw = 0x505 }, "raw=0x505 ")
	one(func(row *api.Row) { row.Raw = 0xffffffff }, "raw=0xffffffff ")
	one(func(row *api.Row) { row.Len = 2 }, "len=2 ")
	one(func(row *api.Row) { row.Len = 4 }, "len=4 ")
	one(func(row *api.Row) { row.Raw, row.Len = 0x13, 4 }, "raw=0x13 len=4 ")
	one(func(row *api.Row) { row.Raw, row.Len = 0x13, 2 }, "raw=0x13 len=2 ")
	one(func(row *api.Row) { row.Raw, row.Len = 0xabcd0505, 4 }, "raw=0xabcd0505 len=4 ")
	one(func(row *api.Row) { row.Cause = 8 }, "cause=0x8 ")
	one(func(row *api.Row) { row.Cause = 1<<63 + 11 }, "cause=0x800000000000000b ")
	one(func(row *api.Row) { row.Tval = 0x1f }, "tval=0x1f ")
	for n := 1; n < 32; n++ {
		one(func(row *api.Row) { row.Rd = n }, "rd="+speak.Reg(n)+" ")
	}
	one(func(row *api.Row) { row.Val = math.MaxUint64 }, "val=0xffffffffffffffff ")
	one(func(row *api.Row) { row.Rd, row.Val = 31, 5 }, "rd=t6 val=0x5 ")
	one(func(row *api.Row) { row.Mem = 1 }, "mem=r ")
	one(func(row *api.Row) { row.Mem = 2 }, "mem=w ")
	one(func(row *api.Row) { row.Mem = 3 }, "mem=rw ")
	one(func(row *api.Row) { row.Addr = 0x80000000 }, "addr=0x80000000 ")
	for _, size := range []int{1, 2, 4, 8} {
		one(func(row *api.Row) { row.Size = size }, fmt.Sprintf("size=%d ", size))
	}
	one(func(row *api.Row) { row.Data = 0xdead }, "data=0xdead ")
	tellsRow(t, api.Row{Step: math.MaxInt, Kind: 1, Mode: 3, Pc: math.MaxUint64, Raw: 0x505, Len: 2, Cause: 1, Tval: 2, Rd: 10, Val: 3, Mem: 3, Addr: 4, Size: 8, Data: 5, Next: 6, NextMode: 3},
		"9223372036854775807 retire m 0xffffffffffffffff raw=0x505 len=2 cause=0x1 tval=0x2 rd=a0 val=0x3 mem=rw addr=0x4 size=8 data=0x5 -> m 0x6 ; c.addi a0, 1")
	tellsRow(t, api.Row{Step: 1, Kind: 2, Mode: 3, Pc: 0x80000000, Len: 2, Cause: 2, NextMode: 3}, "1 exception m 0x80000000 len=2 cause=0x2 -> m 0x0 ; .half 0x0000")
	tellsRow(t, api.Row{Kind: 1, Pc: 0x80000000, Raw: 0xfe000ee3, Len: 4}, "0 retire u 0x80000000 raw=0xfe000ee3 len=4 -> u 0x0 ; beq zero, zero, 0x7ffffffc")
}

// TestP14_4Ends: how it ended, the Cpu and the output.
func TestP14_4Ends(t *testing.T) {
	tr := quiet()
	tellsTrace(t, tr, "anvil trace 1\nend running\npc 0x80000000\nmode m\n")
	tr.Off = api.Passed
	tellsTrace(t, tr, "anvil trace 1\nend passed\npc 0x80000000\nmode m\n")
	tr.Off = api.Failed
	for _, code := range []int{0, 1, 10, 65535} {
		tr.Code = code
		tellsTrace(t, tr, fmt.Sprintf("anvil trace 1\nend failed %d\npc 0x80000000\nmode m\n", code))
	}
	tr = quiet()
	for b := range 256 {
		tr.Output = append(tr.Output, byte(b))
		tellsTrace(t, tr, "anvil trace 1\nend running\npc 0x80000000\nmode m\noutput "+modelString(tr.Output)+"\n")
	}
	tr.Output = []byte(strings.Repeat("a\n", 20000))
	tellsTrace(t, tr, "anvil trace 1\nend running\npc 0x80000000\nmode m\noutput \""+strings.Repeat(`a\n`, 20000)+"\"\n")
	tr = quiet()
	tr.Output = []byte{}
	tellsTrace(t, tr, "anvil trace 1\nend running\npc 0x80000000\nmode m\n")
	tr.Cpu = csr.Proper(api.Cpu{})
	tellsTrace(t, tr, "anvil trace 1\nend running\npc 0x0\nmode u\n")
	full := full()
	tellsTrace(t, full, modelTrace(full))
}

// full is a trace with every kind of line.
func full() api.Trace {
	tr := api.Trace{Off: api.Failed, Code: 77, Output: []byte("a \"\\\n\x00\xff~")}
	tr.Rows = []api.Row{
		{Step: 1, Kind: 1, Mode: 3, Pc: 0x80000000, Raw: 0x505, Len: 2, Rd: 10, Val: 1, Next: 0x80000002, NextMode: 3},
		{Step: 2, Kind: 1, Mode: 3, Pc: 0x80000002, Raw: 0xa5a023, Len: 4, Mem: 2, Addr: 0x80000010, Size: 4, Data: 1, Next: 0x80000006, NextMode: 3},
		{Step: 30, Kind: 2, Cause: 1, Tval: 6, NextMode: 3, Next: 0x100},
		{Step: 4, Kind: 3, Mode: 3, Pc: 0x100, Cause: 1<<63 + 3},
		{Step: 5, Kind: 5},
	}
	c := api.Cpu{Pc: 0x102, Mode: 3, Waiting: true}
	c.X[1], c.X[31] = 0x1f, 2
	for _, own := range csrsOf() {
		*own.at(&c) = own.bits & 0xf0f0f0f0f0f0f0f1
	}
	c.Mie, c.Mstatus = 0x888, uxl|0x1888
	c.Pmp.Cfg[0], c.Pmp.Addr[0], c.Pmp.Cfg[15], c.Pmp.Addr[14] = 0x9f, 5, 0x18, 0x3fffffffffffff
	c.Res = api.Res{Valid: true, Addr: 0x18, Size: 8}
	tr.Cpu = csr.Proper(c)
	return tr
}

// TestP14_4Cannot: each way in which a trace cannot be told.
func TestP14_4Cannot(t *testing.T) {
	cannot := func(change func(tr *api.Trace)) {
		t.Helper()
		for _, last := range []bool{false, true} {
			tr := full()
			change(&tr)
			if last {
				slices.Reverse(tr.Rows)
			}
			if text, why := deck.PrintTrace(tr); text != "" || why != api.ErrTrace {
				t.Errorf("P14.4: %q, error %d of a trace that cannot be told", shown(text), why)
			}
		}
	}
	if _, why := deck.PrintTrace(full()); why != api.OK {
		t.Fatalf("error %d", why)
	}
	for _, v := range []int{-1, math.MinInt} {
		cannot(func(tr *api.Trace) { tr.Rows[0].Step = v })
	}
	for _, v := range []int{0, 6, -1, 7, math.MaxInt, math.MinInt} {
		cannot(func(tr *api.Trace) { tr.Rows[0].Kind = v })
	}
	for _, v := range []int{1, 2, 4, -1, -3, 1 << 32} {
		cannot(func(tr *api.Trace) { tr.Rows[0].Mode = v })
		cannot(func(tr *api.Trace) { tr.Rows[0].NextMode = v })
		cannot(func(tr *api.Trace) { tr.Cpu.Mode = v })
	}
	for _, v := range []int{1, 3, 5, 6, 8, -2, -4, 1 << 32} {
		cannot(func(tr *api.Trace) { tr.Rows[0].Len = v })
	}
	for _, v := range []int{-1, 32, 33, math.MaxInt, math.MinInt} {
		cannot(func(tr *api.Trace) { tr.Rows[0].Rd = v })
	}
	for _, v := range []int{-1, 4, 5, 7, math.MaxInt, math.MinInt} {
		cannot(func(tr *api.Trace) { tr.Rows[0].Mem = v })
	}
	for _, v := range []int{-1, 3, 5, 6, 7, 9, 16, -8, 1 << 32} {
		cannot(func(tr *api.Trace) { tr.Rows[0].Size = v })
	}
	for _, v := range []int{3, -1, 4, math.MaxInt} {
		cannot(func(tr *api.Trace) { tr.Off = v })
		cannot(func(tr *api.Trace) { tr.Off, tr.Code = v, 0 })
	}
	for _, v := range []int{1, -1, 65535, 65536} {
		cannot(func(tr *api.Trace) { tr.Off, tr.Code = api.Running, v })
		cannot(func(tr *api.Trace) { tr.Off, tr.Code = api.Passed, v })
	}
	for _, v := range []int{-1, 65536, math.MaxInt, math.MinInt} {
		cannot(func(tr *api.Trace) { tr.Code = v })
	}
}

// TestP14_4Proper: a Cpu that is not proper cannot be told.
func TestP14_4Proper(t *testing.T) {
	cannot := func(change func(c *api.Cpu)) {
		t.Helper()
		for _, tr := range []api.Trace{quiet(), full()} {
			change(&tr.Cpu)
			if text, why := deck.PrintTrace(tr); text != "" || why != api.ErrTrace {
				t.Errorf("P14.4: %q, error %d of a Cpu that is not proper", shown(text), why)
			}
		}
	}
	cannot(func(c *api.Cpu) { c.Pc |= 1 })
	cannot(func(c *api.Cpu) { c.X[0] = 1 })
	cannot(func(c *api.Cpu) { c.Mstatus = 0 })
	cannot(func(c *api.Cpu) { c.Mstatus |= 1 })
	cannot(func(c *api.Cpu) { c.Mstatus = uxl | 0x800 })
	cannot(func(c *api.Cpu) { c.Mtvec |= 2 })
	cannot(func(c *api.Cpu) { c.Mie |= 1 })
	cannot(func(c *api.Cpu) { c.Mcounteren |= 8 })
	cannot(func(c *api.Cpu) { c.Mcountinhibit |= 2 })
	cannot(func(c *api.Cpu) { c.Menvcfg |= 2 })
	cannot(func(c *api.Cpu) { c.Mepc |= 1 })
	cannot(func(c *api.Cpu) { c.Pmp.Cfg[7] = 0x20 })
	cannot(func(c *api.Cpu) { c.Pmp.Cfg[7] = 2 })
	cannot(func(c *api.Cpu) { c.Pmp.Addr[7] = 1 << 54 })
	cannot(func(c *api.Cpu) { c.Res = api.Res{Addr: 4} })
	cannot(func(c *api.Cpu) { c.Res = api.Res{Size: 4} })
	cannot(func(c *api.Cpu) { c.Res = api.Res{Valid: true, Addr: 4, Size: 8} })
	cannot(func(c *api.Cpu) { c.Res = api.Res{Valid: true, Addr: 4, Size: 2} })
}

// TestP14_4Any: any trace's text against the model, and back.
func TestP14_4Any(t *testing.T) {
	t.Parallel()
	r := random(7)
	for range 3000 {
		tr := anyTrace(r)
		tellsTrace(t, tr, modelTrace(tr))
	}
}
