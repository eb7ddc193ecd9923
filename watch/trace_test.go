package watch_test

import (
	"fmt"
	"math"
	"slices"
	"testing"

	"anvil/api"
	"anvil/watch"
)

// traced: a trace must break this rule at this row.
func traced(t *testing.T, name string, tr api.Trace, rule, at int) {
	t.Helper()
	if k, i := watch.Trace(tr); k != rule || i != at {
		t.Errorf("P18.5: %s: rule %d at %d, want %d at %d", name, k, i, rule, at)
	}
	if k, i := brokenTrace(tr); k != rule || i != at {
		t.Errorf("%s: by the second watch it is rule %d at %d, want %d at %d", name, k, i, rule, at)
	}
}

// run is a right trace with rows of every kind: two that retire in U, a load and a store, a call, an MRET, a wait, an interrupt in M, and at its end the power goes off.
func run() api.Trace {
	rows := []api.Row{
		{Kind: 1, Raw: 0x13, Len: 4, Next: 4},
		{Kind: 1, Raw: 0x4505, Len: 2, Rd: 10, Val: 1, Next: 6},
		{Kind: 1, Raw: 0x53283, Len: 4, Rd: 5, Val: 9, Mem: 1, Addr: ram, Size: 8, Next: 10},
		{Kind: 1, Raw: 0x653023, Len: 4, Mem: 2, Addr: ram, Size: 8, Data: 3, Next: 14},
		{Kind: 1, Raw: 0x6522af, Len: 4, Rd: 5, Mem: 3, Addr: ram, Size: 4, Next: 18},
		{Kind: 2, Raw: 0x73, Len: 4, Cause: 8, Next: 100, NextMode: 3},
		{Kind: 1, Raw: mret, Len: 4, Next: 18},
		{Kind: 2, Cause: 1, Tval: 18, Next: 100, NextMode: 3},
		{Kind: 1, Raw: 0x10500073, Len: 4, Next: 104, NextMode: 3},
		{Kind: 4, Next: 104, NextMode: 3},
		{Kind: 3, Cause: 1<<63 | 7, Next: 200, NextMode: 3},
		{Kind: 1, Raw: mret, Len: 4, Next: 104, NextMode: 3},
		{Kind: 1, Raw: 0xd62023, Len: 4, Mem: 2, Addr: finisher, Size: 4, Data: 0x5555, Next: 108, NextMode: 3},
		{Kind: 5, Next: 108, NextMode: 3},
		{Kind: 5, Next: 108, NextMode: 3},
		{Kind: 5, Next: 108, NextMode: 3},
	}
	for i := range rows {
		rows[i].Step = i + 1
		if i > 0 {
			rows[i].Pc, rows[i].Mode = rows[i-1].Next, rows[i-1].NextMode
		}
	}
	return api.Trace{Rows: rows, Cpu: api.Cpu{Pc: 108, Mode: 3}}
}

// rejoin lets each row begin where the one ahead of it ends, and the Cpu stand where the last one does.
func rejoin(tr api.Trace) api.Trace {
	for i := range tr.Rows {
		if i > 0 {
			tr.Rows[i].Pc, tr.Rows[i].Mode = tr.Rows[i-1].Next, tr.Rows[i-1].NextMode
		}
		tr.Cpu.Pc, tr.Cpu.Mode = tr.Rows[i].Next, tr.Rows[i].NextMode
	}
	return tr
}

// single is a trace of one row, which the Cpu stands behind.
func single(r api.Row) api.Trace {
	return api.Trace{Rows: []api.Row{r}, Cpu: api.Cpu{Pc: r.Next, Mode: r.NextMode}}
}

// TestP18_5Kept: a right trace, each of its beginnings, and traces that begin in its midst, but for their numbers.
func TestP18_5Kept(t *testing.T) {
	for from := range run().Rows {
		for to := from; to <= len(run().Rows); to++ {
			tr := run()
			tr.Rows = tr.Rows[from:to]
			for i := range tr.Rows {
				tr.Rows[i].Step = i + 1
				tr.Cpu.Pc, tr.Cpu.Mode = tr.Rows[i].Next, tr.Rows[i].NextMode
			}
			traced(t, fmt.Sprintf("rows %d to %d", from, to), tr, 0, 0)
		}
	}
}

// TestP18_5Rule1: the numbers, at each row and at several.
func TestP18_5Rule1(t *testing.T) {
	for i := range run().Rows {
		for _, step := range []int{0, -1, i, i + 2, math.MaxInt, math.MinInt} {
			tr := run()
			tr.Rows[i].Step = step
			traced(t, fmt.Sprintf("row %d has the number %d", i, step), tr, 1, i)
			tr.Rows[len(tr.Rows)-1].Step = 0
			traced(t, "and so has the last one", tr, 1, i)
		}
		tr := run()
		for k := range tr.Rows[i:] {
			tr.Rows[i+k].Step++
		}
		traced(t, "one is left out", tr, 1, i)
	}
}

// TestP18_5Rule2: a row that begins elsewhere than the one ahead of it ends. The first may begin anywhere.
func TestP18_5Rule2(t *testing.T) {
	last := len(run().Rows) - 1
	for i := range last {
		for name, do := range map[string]func(r *api.Row){
			"Next":     func(r *api.Row) { r.Next += 2 },
			"Next 1":   func(r *api.Row) { r.Next++ },
			"NextMode": func(r *api.Row) { r.NextMode ^= 3 },
			"both":     func(r *api.Row) { r.Next, r.NextMode = 1, 7 },
		} {
			tr := run()
			do(&tr.Rows[i])
			traced(t, fmt.Sprintf("row %d: %s", i, name), tr, 2, i+1)
			tr.Rows[last].Pc += 4
			traced(t, fmt.Sprintf("row %d and the last: %s", i, name), tr, 2, i+1)
		}
		for _, do := range []func(r *api.Row){func(r *api.Row) { r.Pc -= 2 }, func(r *api.Row) { r.Mode ^= 3 }, func(r *api.Row) { r.Mode = 1 }} {
			tr := run()
			do(&tr.Rows[i+1])
			traced(t, fmt.Sprintf("row %d begins elsewhere", i+1), tr, 2, i+1)
		}
	}
	tr := run()
	tr.Rows[0].Pc = 0x7777777777777776
	traced(t, "the first row's Pc", tr, 0, 0)
}

// shape is a row that is changed: whether it keeps rule 3 then.
type shape struct {
	name string
	row  int // of run
	do   func(r *api.Row)
	kept bool
}

// shapes is every field that a kind of row may or may not have.
func shapes() []shape {
	all := []shape{
		{"odd Pc", 0, func(r *api.Row) { r.Pc = 1 }, false},
		{"odd Next", 0, func(r *api.Row) { r.Next++ }, false},
		{"Len 0", 0, func(r *api.Row) { r.Len = 0 }, false},
		{"Len 2", 0, func(r *api.Row) { r.Len = 2 }, true},
		{"Len 3", 0, func(r *api.Row) { r.Len = 3 }, false},
		{"Len -2", 5, func(r *api.Row) { r.Len = -2 }, false},
		{"Len 6", 5, func(r *api.Row) { r.Len = 6 }, false},
		{"Len 2", 5, func(r *api.Row) { r.Len = 2 }, true},
		{"Len 0 with a Raw", 5, func(r *api.Row) { r.Len = 0 }, true},
		{"Raw without Len", 7, func(r *api.Row) { r.Raw = 9 }, true},
		{"Raw 0", 0, func(r *api.Row) { r.Raw = 0 }, true},
		{"Val without Rd", 0, func(r *api.Row) { r.Val = 1 }, false},
		{"Val 0", 1, func(r *api.Row) { r.Val = 0 }, true},
		{"Rd 32", 1, func(r *api.Row) { r.Rd = 32 }, true},
		{"Rd -1", 1, func(r *api.Row) { r.Rd = -1 }, true},
		{"Addr without Mem", 0, func(r *api.Row) { r.Addr = 1 }, false},
		{"Size without Mem", 0, func(r *api.Row) { r.Size = -1 }, false},
		{"Data without Mem", 0, func(r *api.Row) { r.Data = 1 << 63 }, false},
		{"Data of a load", 2, func(r *api.Row) { r.Data = 1 }, false},
		{"Data of a store", 3, func(r *api.Row) { r.Data = ones }, true},
		{"Data of an AMO", 4, func(r *api.Row) { r.Data = ones }, true},
		{"Data with Mem 4", 3, func(r *api.Row) { r.Mem = 4 }, true},
		{"Data with Mem 5", 3, func(r *api.Row) { r.Mem = 5 }, true},
		{"Mem -1", 3, func(r *api.Row) { r.Mem = -1 }, true},
		{"Size 3", 2, func(r *api.Row) { r.Size = 3 }, true},
		{"Size 0", 2, func(r *api.Row) { r.Size, r.Addr = 0, 0 }, true},
		{"bit 63 of an exception", 5, func(r *api.Row) { r.Cause |= 1 << 63 }, false},
		{"another cause", 5, func(r *api.Row) { r.Cause = 1<<63 - 1 }, true},
		{"cause 0", 5, func(r *api.Row) { r.Cause = 0 }, true},
		{"Tval", 5, func(r *api.Row) { r.Tval = ones }, true},
		{"no bit 63 of an interrupt", 10, func(r *api.Row) { r.Cause = 7 }, false},
		{"an interrupt of no number", 10, func(r *api.Row) { r.Cause = 1 << 63 }, true},
		{"Tval of an interrupt", 10, func(r *api.Row) { r.Tval = 1 }, false},
		{"Raw of an interrupt", 10, func(r *api.Row) { r.Raw = 1 }, false},
		{"Len of an interrupt", 10, func(r *api.Row) { r.Len = 4 }, false},
	}
	for _, row := range []int{5, 10, 9, 13} {
		all = append(all,
			shape{"Rd", row, func(r *api.Row) { r.Rd = 1 }, false}, shape{"Val", row, func(r *api.Row) { r.Val = 1 }, false},
			shape{"Rd and Val", row, func(r *api.Row) { r.Rd, r.Val = 1, 1 }, false}, shape{"Mem", row, func(r *api.Row) { r.Mem = 2 }, false},
			shape{"Addr", row, func(r *api.Row) { r.Addr = 1 }, false}, shape{"Size", row, func(r *api.Row) { r.Size = 1 }, false},
			shape{"Data", row, func(r *api.Row) { r.Data = 1 }, false}, shape{"an access", row, func(r *api.Row) { r.Mem, r.Addr, r.Size = 1, ram, 8 }, false},
		)
	}
	for _, row := range []int{0, 9, 13} {
		all = append(all, shape{"Cause", row, func(r *api.Row) { r.Cause = 1 }, false}, shape{"bit 63", row, func(r *api.Row) { r.Cause = 1 << 63 }, false}, shape{"Tval", row, func(r *api.Row) { r.Tval = 1 }, false})
	}
	for _, row := range []int{9, 13} {
		all = append(all, shape{"Raw", row, func(r *api.Row) { r.Raw = 1 << 31 }, false}, shape{"Len", row, func(r *api.Row) { r.Len = 2 }, false}, shape{"Len 3", row, func(r *api.Row) { r.Len = 3 }, false})
	}
	return all
}

// TestP18_5Rule3: the fields of each kind of row, alone and in the midst of others.
func TestP18_5Rule3(t *testing.T) {
	for _, s := range shapes() {
		r := run().Rows[s.row]
		r.Step = 1
		s.do(&r)
		rule := 3
		if s.kept {
			rule = 0
		}
		traced(t, fmt.Sprintf("row %d alone: %s", s.row, s.name), single(r), rule, 0)
		tr := run()
		if s.do(&tr.Rows[s.row]); tr.Rows[s.row].Next%2 == 1 || tr.Rows[s.row].Pc%2 == 1 {
			continue // the rows ahead and behind would not meet it
		}
		traced(t, fmt.Sprintf("row %d: %s", s.row, s.name), tr, rule, s.row*rule/3)
		tr.Rows[15].Data = 1
		if s.kept {
			traced(t, "and the last", tr, 3, 15)
		} else {
			traced(t, "and the last", tr, 3, s.row)
		}
	}
	for _, mode := range []int{1, 2, -1, 4, math.MaxInt, math.MinInt} {
		for _, i := range []int{0, 5, 9, 10, 13} {
			r := run().Rows[i]
			r.Step, r.Mode = 1, mode
			traced(t, "Mode", single(r), 3, 0)
			r = run().Rows[i]
			r.Step, r.NextMode = 1, mode
			traced(t, "NextMode", single(r), 3, 0)
		}
	}
	for _, kind := range []int{0, 6, -1, math.MaxInt, math.MinInt} {
		traced(t, "Kind", single(api.Row{Step: 1, Kind: kind}), 3, 0)
		for i := range run().Rows {
			tr := run()
			tr.Rows[i].Kind = kind
			traced(t, fmt.Sprintf("row %d: Kind", i), tr, 3, i)
		}
	}
}

// TestP18_5Rule4: behind a row with the power off there are none but such, which stand still. The first of them may move.
func TestP18_5Rule4(t *testing.T) {
	for i := 14; i < 16; i++ {
		tr := run()
		tr.Rows[i].Next += 2
		traced(t, fmt.Sprintf("row %d moves", i), rejoin(tr), 4, i)
		tr = run()
		tr.Rows[i].NextMode = 0
		traced(t, fmt.Sprintf("row %d turns", i), rejoin(tr), 4, i)
		tr = run()
		tr.Rows[i].Kind = api.RowWait
		traced(t, fmt.Sprintf("row %d waits", i), tr, 4, i)
		tr.Rows[15] = api.Row{Step: 16, Kind: 1, Raw: 1, Len: 2}
		tr = rejoin(tr)
		tr.Rows[15].NextMode = tr.Rows[15].Mode
		traced(t, fmt.Sprintf("row %d waits and the last retires", i), rejoin(tr), 4, i)
	}
	tr := run()
	tr.Rows[13].Next, tr.Rows[13].NextMode = 50, 0
	for i := 14; i < 16; i++ {
		tr.Rows[i].Next, tr.Rows[i].NextMode = 50, 0
	}
	traced(t, "the first row with the power off moves", rejoin(tr), 0, 0)
	for i := range 12 { // all behind a row that is told as off are asked
		tr := run()
		tr.Rows[i] = api.Row{Step: i + 1, Kind: 5, Pc: tr.Rows[i].Pc, Mode: tr.Rows[i].Mode, Next: tr.Rows[i].Next, NextMode: tr.Rows[i].NextMode}
		traced(t, fmt.Sprintf("row %d is told as off", i), tr, 4, i+1)
	}
}

// TestP18_5Rule5: where each kind of row may lead.
func TestP18_5Rule5(t *testing.T) {
	for from := range 2 {
		for to := range 2 {
			for kind := 1; kind <= 5; kind++ {
				for _, raw := range []uint32{0x13, mret, 0x10200073, mret | 1<<7, 0x73} {
					for _, next := range []uint64{0, 2, ones - 1} {
						r := api.Row{Step: 1, Kind: kind, Mode: 3 * from, NextMode: 3 * to, Next: next}
						if kind <= 2 {
							r.Raw, r.Len = raw, 4
						}
						if kind == 3 {
							r.Cause = 1 << 63
						}
						kept := true
						switch kind {
						case 1:
							kept = from == to || from == 1 && to == 0 && raw == mret
						case 2, 3:
							kept = to == 1
						case 4:
							kept = from == to && next == 0
						}
						rule := 5
						if kept {
							rule = 0
						}
						traced(t, fmt.Sprintf("%+v", r), single(r), rule, 0)
						tr := run()
						if r.Step, r.Pc, r.Mode = 2, tr.Rows[0].Next, 0; kind != 5 && kind != 4 && from == 0 {
							tr.Rows[1] = r
							tr.Rows = tr.Rows[:2]
							traced(t, fmt.Sprintf("behind another %+v", r), rejoin(tr), rule, rule/5)
						}
					}
				}
			}
		}
	}
	tr := run()
	for _, i := range []int{11, 9, 5, 3} {
		tr.Rows[i].NextMode ^= 3
		if i == 11 {
			tr.Rows[i].Raw = 0x13
		}
		traced(t, fmt.Sprintf("row %d turns, and some behind it", i), rejoin(api.Trace{Rows: slices.Clone(tr.Rows)}), 5, i)
	}
}

// TestP18_5Rule6: the Cpu stands where the last row ends; it is made proper first. Its place is the number of rows.
func TestP18_5Rule6(t *testing.T) {
	for n := 1; n <= 16; n++ {
		tr := run()
		tr.Rows = tr.Rows[:n]
		tr = rejoin(tr)
		good := tr.Cpu
		for name, do := range map[string]func(c *api.Cpu){
			"Pc":     func(c *api.Cpu) { c.Pc += 2 },
			"Pc - 2": func(c *api.Cpu) { c.Pc -= 2 },
			"Mode":   func(c *api.Cpu) { c.Mode ^= 3 },
		} {
			tr.Cpu = good
			do(&tr.Cpu)
			traced(t, name, tr, 6, n)
		}
		for name, do := range map[string]func(c *api.Cpu){
			"Pc + 1":   func(c *api.Cpu) { c.Pc++ },
			"all else": func(c *api.Cpu) { c.X[0], c.X[5], c.Mstatus, c.Waiting, c.Mepc = 1, 2, 3, true, 5 },
		} {
			tr.Cpu = good
			do(&tr.Cpu)
			traced(t, name, tr, 0, 0)
		}
		for _, mode := range []int{1, 2, -1, 4, math.MaxInt} {
			tr.Cpu = good
			tr.Cpu.Mode = mode
			if good.Mode == 0 {
				traced(t, "a Mode that is made U", tr, 0, 0)
			} else {
				traced(t, "a Mode that is made U", tr, 6, n)
			}
		}
		tr.Cpu = good
		tr.Off, tr.Code, tr.Output = 77, -5, []byte("x")
		traced(t, "the end's other parts", tr, 0, 0)
	}
	traced(t, "no rows", api.Trace{Cpu: api.Cpu{Pc: 7, Mode: 9}}, 0, 0)
	traced(t, "an empty list of rows", api.Trace{Rows: []api.Row{}, Cpu: api.Cpu{Pc: 8, Mode: 3}}, 0, 0)
}

// TestP18_5Several: of two rules that are broken the lower one is told, wherever they are broken, and its first row.
func TestP18_5Several(t *testing.T) {
	breaks := []func(tr *api.Trace, i int){
		func(tr *api.Trace, i int) { tr.Rows[i].Step = 99 },
		func(tr *api.Trace, i int) { tr.Rows[i].Pc += 2 },
		func(tr *api.Trace, i int) { tr.Rows[i].Cause ^= 1 << 63 },
		func(tr *api.Trace, i int) { tr.Rows[i].Kind = api.RowOff },
		func(tr *api.Trace, i int) { tr.Rows[i].NextMode ^= 3 },
		func(tr *api.Trace, i int) { tr.Cpu.Pc += 2 },
	}
	told := map[int]int{}
	for a, first := range breaks {
		for b, second := range breaks {
			for i := range run().Rows {
				for k := range run().Rows {
					tr := run()
					first(&tr, i)
					second(&tr, k)
					rule, at := brokenTrace(tr)
					traced(t, fmt.Sprintf("break %d at %d and %d at %d", a+1, i, b+1, k), tr, rule, at)
					told[rule]++
				}
			}
		}
	}
	for rule := range 7 {
		if told[rule] == 0 && rule != 4 && rule != 5 { // rule 3, or rule 2, goes ahead of them here
			t.Errorf("rule %d was not told", rule)
		}
	}
}

// weighedTrace holds Trace against the second watch, and answers the rule that both tell.
func weighedTrace(t *testing.T, tr api.Trace) int {
	t.Helper()
	rule, at := brokenTrace(tr)
	if k, i := watch.Trace(tr); k != rule || i != at {
		t.Fatalf("P18.5: rule %d at %d, want %d at %d, of\n%+v", k, i, rule, at, tr)
	}
	return rule
}

// TestP18_5Changed: traces that were played, with parts of them changed, against the second watch.
func TestP18_5Changed(t *testing.T) {
	told := map[int]int{}
	r := random(6)
	for range 600 {
		tr := played(t, anyDeck(t, r, 30))
		for range 30 {
			is := tr
			is.Rows = slices.Clone(tr.Rows)
			if is.Rows = is.Rows[:1+r.IntN(len(is.Rows))]; r.IntN(4) == 0 {
				is = rejoin(is)
			}
			for range 1 + r.IntN(2) {
				i := r.IntN(len(is.Rows))
				if one(r, leaves(&is.Rows[i])...).jolt(r); r.IntN(8) == 0 {
					is.Rows[i].Kind = one(r, 1, 2, 3, 4, 5)
				}
				if r.IntN(8) == 0 {
					is.Rows[i] = api.Row{Step: i + 1, Kind: api.RowOff, Pc: is.Rows[i].Pc, Mode: is.Rows[i].Mode}
				}
			}
			if r.IntN(3) > 0 {
				is = rejoin(is)
			}
			told[weighedTrace(t, is)]++
		}
	}
	enoughOf(t, told, 6, 50)
}

// TestP18_5Anything: rows of any bits.
func TestP18_5Anything(t *testing.T) {
	r := random(7)
	for range 20000 {
		tr := api.Trace{Rows: make([]api.Row, r.IntN(4)), Cpu: anyCpu(r)}
		for i := range tr.Rows {
			for _, part := range leaves(&tr.Rows[i]) {
				if r.IntN(4) == 0 {
					part.jolt(r)
				}
			}
			if r.IntN(3) > 0 {
				tr.Rows[i].Step, tr.Rows[i].Kind = i+1, one(r, 1, 2, 3, 4, 5)
			}
		}
		if r.IntN(2) == 0 {
			tr = rejoin(tr)
		}
		weighedTrace(t, tr)
	}
}
