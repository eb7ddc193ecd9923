package watch

import (
	"anvil/api"
	"anvil/csr"
	"anvil/pmp"
	"anvil/trap"
)

// sight is what is seen of a step: everything ahead of it and behind it, both with proper Cpus, its world and its row.
type sight struct {
	before, after api.Whole
	world         api.World
	row           api.Row
	wasProper     bool // whether the Cpu behind the step was proper as it was handed in
}

func sightOf(before, after api.Whole, w api.World, r api.Row) sight {
	s := sight{before: before, after: after, world: w, row: r}
	s.before.Cpu, s.after.Cpu = csr.Proper(before.Cpu), csr.Proper(after.Cpu)
	s.wasProper = s.after.Cpu == after.Cpu
	return s
}

// stepRule is one rule of a step: its number, and what tells whether it is kept.
type stepRule struct {
	number int
	kept   func() bool
}

// rules are all rules of a step in their order. They are asked up to the first that is broken: so those behind rule 1 may rely on RAMs of one length.
func (s sight) rules() []stepRule {
	b, a := s.before.Cpu, s.after.Cpu
	was, is := s.before.Bus, s.after.Bus
	r, stored := s.row, storedOf(s.row)
	fromU, off := b.Mode == api.U, r.Kind == api.RowOff
	return []stepRule{
		{1, func() bool { return len(is.Ram) == len(was.Ram) && s.wasProper }},
		{2, func() bool { return isKind(r.Kind) && beginsAt(r, b) && endsAt(r, a) }},
		{3, func() bool { return off == (was.Off != api.Running) && (!off || sameWhole(s.before, s.after)) }},
		{4, func() bool { return wroteOne(r, b.X, a.X) }},
		{5, func() bool {
			return !fromU || sameWhere(was.Ram, is.Ram, func(at uint64) bool { return !pmp.Granted(b.Pmp, at, api.W) })
		}},
		{6, func() bool {
			return sameWhere(was.Ram, is.Ram, func(at uint64) bool { return !stored.has(at) }) && stored.holds(is.Ram, r.Data)
		}},
		{7, func() bool { return !fromU || a.Pmp == b.Pmp }},
		{8, func() bool { return keptLocks(b.Pmp, a.Pmp) }},
		{9, func() bool { return !fromU || sameOwn(b, a) && (isTrap(r) || sameTold(b, a)) }},
		{10, func() bool { return !isTrap(r) || entered(r, b, a) }},
		{11, func() bool { return r.Kind != api.RowWait || b.Waiting && mip(is)&a.Mie == 0 && sameButCycle(b, a) }},
		{12, func() bool { return off || mayWriteCounters(r) || a.Mcycle == b.Mcycle+cycles(b) }},
		{13, func() bool { return mayWriteCounters(r) || a.Minstret == b.Minstret+retired(r, b) }},
		{14, func() bool {
			return off || stored.meets(api.Mtime, doubleBytes) || is.Mtime == was.Mtime+one(s.world.Tick)
		}},
		{15, func() bool {
			return (is.Mtimecmp == was.Mtimecmp || stored.meets(api.Mtimecmp, doubleBytes)) &&
				(is.Msip == was.Msip || stored.meets(api.Msip, wordBytes))
		}},
		{16, func() bool { return off || is.Ext == s.world.Ext && is.Soft == s.world.Soft }},
		{17, func() bool { return sent(was.Output, is.Output, stored, r.Data) }},
		{18, func() bool { return modeMayTurn(r, b.Mode, a.Mode) }},
		{19, func() bool { return r.Kind != api.RowRetire || r.Mem == 0 || mayReach(r, b.Pmp, trap.Effective(b)) }},
		{20, func() bool { return r.Len == 0 || mayFetch(r, b) }},
	}
}
