package watch_test

import (
	"bytes"
	"math/bits"
	"reflect"
	"slices"

	"anvil/api"
	"anvil/csr"
	"anvil/pmp"
	"anvil/trap"
)

// The second watch: the chapter's tables line by line. It tells all rules that are broken, not the lowest alone, and has each place as the set of its addresses.

// placeOf is the addresses of a row's place, each with its number in it, and whether all of them are addresses that there are.
func placeOf(r api.Row) (map[uint64]int, bool) {
	set, whole := map[uint64]int{}, true
	if r.Mem == 0 || r.Size < 1 || r.Size > 8 {
		return set, whole
	}
	for k := range r.Size {
		at, over := bits.Add64(r.Addr, uint64(k), 0)
		if over != 0 {
			whole = false
			continue
		}
		set[at] = k
	}
	return set, whole
}

// meets tells whether a set has one of n addresses from this one on.
func meets(set map[uint64]int, first uint64, n int) bool {
	for k := range n {
		if _, is := set[first+uint64(k)]; is {
			return true
		}
	}
	return false
}

// mipOf is mip of a bus, by section "The CSRs".
func mipOf(s api.Bus) uint64 {
	var v uint64
	for bit, up := range map[int]bool{3: s.Msip&1 == 1 || s.Soft, 7: s.Mtime >= s.Mtimecmp, 11: s.Ext || s.Ier&1 == 1 && len(s.Input) != 0} {
		if up {
			v |= 1 << bit
		}
	}
	return v
}

// sameBus compares all of two states; nil and an empty list are the same.
func sameBus(a, b api.Bus) bool {
	for _, list := range []*[]byte{&a.Ram, &a.Input, &a.Output, &b.Ram, &b.Input, &b.Output} {
		if len(*list) == 0 {
			*list = nil
		}
	}
	return reflect.DeepEqual(a, b)
}

// verdict gathers the rules that are broken.
type verdict []int

func (v *verdict) must(rule int, clauses ...bool) {
	if slices.Contains(clauses, false) && !slices.Contains(*v, rule) {
		*v = append(*v, rule)
	}
}

// broken is the numbers of all rules that a look breaks. With RAMs of two lengths nothing but the first is asked.
func broken(l look) []int {
	var v verdict
	b, a, s, e := csr.Proper(l.b.Cpu), csr.Proper(l.a.Cpu), l.b.Bus, l.a.Bus
	v.must(1, len(e.Ram) == len(s.Ram), a == l.a.Cpu)
	if len(e.Ram) != len(s.Ram) {
		return v
	}
	r := l.r
	v.must(2, slices.Contains([]int{1, 2, 3, 4, 5}, r.Kind), r.Mode == b.Mode, r.Pc == b.Pc, r.Next == a.Pc, r.NextMode == a.Mode)
	if (r.Kind == 5) != (s.Off != 0) {
		v.must(3, false)
	} else if r.Kind == 5 {
		v.must(3, a == b, sameBus(s, e))
	}
	brokenX(&v, b, a, r)
	brokenRam(&v, l, b)
	brokenEntries(&v, b, a)
	brokenCsrs(&v, b, a, e, r)
	brokenCounts(&v, b, a, r)
	brokenDevices(&v, l)
	v.must(18, a.Mode == b.Mode || b.Mode == 0 && a.Mode == 3 && (r.Kind == 2 || r.Kind == 3) || b.Mode == 3 && a.Mode == 0 && r.Kind == 1 && r.Raw == mret)
	if r.Kind == 1 && r.Mem != 0 {
		v.must(19, r.Mem >= 1 && r.Mem <= 3, pmp.Check(b.Pmp, trap.Effective(b), r.Addr, r.Size, r.Mem))
		v.must(19, slices.Contains([]int{1, 2, 4, 8}, r.Size) && r.Addr%uint64(r.Size) == 0)
	}
	if r.Len != 0 {
		v.must(20, r.Len == 2 || r.Len == 4, pmp.Check(b.Pmp, b.Mode, b.Pc, 2, api.X), r.Len != 4 || pmp.Check(b.Pmp, b.Mode, b.Pc+2, 2, api.X))
	}
	slices.Sort(v)
	return v
}

func brokenX(v *verdict, b, a api.Cpu, r api.Row) {
	if r.Kind != 1 {
		v.must(4, a.X == b.X, r.Rd == 0, r.Val == 0, r.Mem == 0, r.Addr == 0, r.Size == 0, r.Data == 0)
		return
	}
	v.must(4, r.Rd >= 0 && r.Rd <= 31)
	for i := range 32 {
		v.must(4, i == r.Rd || a.X[i] == b.X[i], i != r.Rd || i == 0 || a.X[i] == r.Val)
	}
}

func brokenRam(v *verdict, l look, b api.Cpu) {
	set, whole := placeOf(l.r)
	for at := range set {
		whole = whole && at >= ram && at-ram < uint64(len(l.b.Bus.Ram))
	}
	w := l.r.Mem>>1&1 == 1
	for i := range l.b.Bus.Ram {
		at := ram + uint64(i)
		k, in := set[at]
		same := l.a.Bus.Ram[i] == l.b.Bus.Ram[i]
		v.must(5, same || b.Mode != 0 || pmp.Granted(b.Pmp, at, api.W))
		v.must(6, same || w && in, !w || !in || !whole || l.a.Bus.Ram[i] == byte(l.r.Data>>(8*k)))
	}
}

func brokenEntries(v *verdict, b, a api.Cpu) {
	v.must(7, b.Mode != 0 || a.Pmp == b.Pmp)
	for i := range 16 {
		cfg, addr := pmp.Locked(b.Pmp, i)
		v.must(8, !cfg || a.Pmp.Cfg[i] == b.Pmp.Cfg[i], !addr || a.Pmp.Addr[i] == b.Pmp.Addr[i])
	}
}

func brokenCsrs(v *verdict, b, a api.Cpu, e api.Bus, r api.Row) {
	isTrap := r.Kind == 2 || r.Kind == 3
	if b.Mode == 0 {
		v.must(9, a.Mtvec == b.Mtvec, a.Mie == b.Mie, a.Mcounteren == b.Mcounteren, a.Mcountinhibit == b.Mcountinhibit, a.Menvcfg == b.Menvcfg, a.Mscratch == b.Mscratch)
		v.must(9, isTrap || a.Mstatus == b.Mstatus, isTrap || a.Mepc == b.Mepc, isTrap || a.Mcause == b.Mcause, isTrap || a.Mtval == b.Mtval)
	}
	if isTrap {
		pc := b.Mtvec / 4 * 4
		if r.Cause >= 1<<63 && b.Mtvec%2 == 1 {
			pc += r.Cause << 1 << 1
		}
		status := b.Mstatus&^0x1888 | b.Mstatus>>3&1<<7 | uint64(b.Mode)<<11
		v.must(10, a.Mepc == b.Pc, a.Mcause == r.Cause, a.Mtval == r.Tval, a.Mstatus == status, a.Mode == 3, !a.Waiting, !a.Res.Valid, a.Pc == pc)
	}
	if r.Kind == 4 {
		rest := a
		rest.Mcycle = b.Mcycle
		v.must(11, b.Waiting, mipOf(e)&b.Mie == 0, rest == b)
	}
}

func brokenCounts(v *verdict, b, a api.Cpu, r api.Row) {
	if r.Kind == 1 && r.Raw%128 == 0x73 {
		return
	}
	if r.Kind != 5 {
		v.must(12, a.Mcycle-b.Mcycle == 1-b.Mcountinhibit&1)
	}
	if r.Kind == 1 && b.Mcountinhibit < 4 {
		v.must(13, a.Minstret-b.Minstret == 1)
	} else {
		v.must(13, a.Minstret == b.Minstret)
	}
}

func brokenDevices(v *verdict, l look) {
	s, e, r := l.b.Bus, l.a.Bus, l.r
	set, _ := placeOf(r)
	if r.Mem&2 == 0 {
		clear(set)
	}
	ticks := s.Mtime
	if l.w.Tick {
		ticks++
	}
	v.must(14, r.Kind == 5 || meets(set, mtime, 8) || e.Mtime == ticks)
	v.must(15, e.Mtimecmp == s.Mtimecmp || meets(set, mtimecmp, 8), e.Msip == s.Msip || meets(set, msip, 4))
	v.must(16, r.Kind == 5 || e.Ext == l.w.Ext && e.Soft == l.w.Soft)
	sent, begins := bytes.CutPrefix(e.Output, s.Output)
	_, data := set[console]
	v.must(17, begins, len(sent) == 0 || data && len(set) == 1 && len(sent) == 1 && uint64(sent[0]) == r.Data)
}

// agree is Agree by the chapter.
func agree(a, b api.Whole) bool {
	x, y := a.Bus, b.Bus
	x.Ram, y.Ram = nil, nil
	if csr.Proper(a.Cpu) != csr.Proper(b.Cpu) || !sameBus(x, y) || len(a.Bus.Ram) != len(b.Bus.Ram) {
		return false
	}
	for i := range a.Bus.Ram {
		at := ram + uint64(i)
		if (pmp.Granted(a.Cpu.Pmp, at, api.R) || pmp.Granted(a.Cpu.Pmp, at, api.X)) && a.Bus.Ram[i] != b.Bus.Ram[i] {
			return false
		}
	}
	return true
}

// brokenTrace is what Trace must answer: it gathers the rows at which each rule is broken.
func brokenTrace(t api.Trace) (int, int) {
	var at [7][]int
	must := func(rule, row int, clauses ...bool) {
		if slices.Contains(clauses, false) {
			at[rule] = append(at[rule], row)
		}
	}
	off := slices.IndexFunc(t.Rows, func(r api.Row) bool { return r.Kind == 5 })
	for i, r := range t.Rows {
		must(1, i, r.Step == i+1)
		if i > 0 {
			must(2, i, r.Pc == t.Rows[i-1].Next, r.Mode == t.Rows[i-1].NextMode)
		}
		must(3, i, shaped(r))
		stands := r.Next == r.Pc && r.NextMode == r.Mode
		must(4, i, off < 0 || i <= off || r.Kind == 5 && stands)
		must(5, i, r.Kind != 4 || stands, r.Kind != 2 && r.Kind != 3 || r.NextMode == 3)
		must(5, i, r.Kind != 1 || r.NextMode == r.Mode || r.Mode == 3 && r.NextMode == 0 && r.Raw == mret)
	}
	if n := len(t.Rows); n > 0 {
		c := csr.Proper(t.Cpu)
		must(6, n, t.Rows[n-1].Next == c.Pc, t.Rows[n-1].NextMode == c.Mode)
	}
	for rule, rows := range at {
		if len(rows) > 0 {
			return rule, rows[0]
		}
	}
	return 0, 0
}

// shaped tells whether a row keeps rule 3 of a trace.
func shaped(r api.Row) bool {
	zero := func(values ...uint64) bool { return slices.Max(values) == 0 }
	ok := r.Kind >= 1 && r.Kind <= 5 && (r.Mode == 0 || r.Mode == 3) && (r.NextMode == 0 || r.NextMode == 3) && r.Pc&1 == 0 && r.Next&1 == 0
	if r.Kind != 2 && r.Kind != 3 {
		ok = ok && zero(r.Cause, r.Tval)
	}
	ok = ok && (r.Cause>>63 == 1) == (r.Kind == 3) && (r.Kind != 3 || r.Tval == 0)
	if r.Kind > 2 {
		ok = ok && zero(uint64(r.Raw), uint64(r.Len))
	}
	ok = ok && (r.Len == 2 || r.Len == 4 || r.Len == 0 && r.Kind != 1)
	if r.Kind != 1 {
		ok = ok && zero(uint64(r.Rd), r.Val, uint64(r.Mem), r.Addr, uint64(r.Size), r.Data)
	}
	ok = ok && (r.Rd != 0 || r.Val == 0) && (r.Mem != 0 || zero(r.Addr, uint64(r.Size), r.Data))
	return ok && (r.Mem != 1 || r.Data == 0)
}
