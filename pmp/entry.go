package pmp

import "anvil/api"

const (
	// count is how many entries there are, and perReg how many of them one pmpcfg register has.
	count  = 16
	perReg = 8

	// none stands for an entry's number where there is no entry.
	none = -1
)

// A Cfg byte: the rights stand where api has them, then two bits that say how Addr is meant, and the lock on top.
const (
	allRights = api.R | api.W | api.X
	kindShift = 3
	kindBits  = 3
	lockBit   = 0x80
	cfgBits   = lockBit | kindBits<<kindShift | allRights
)

// The kinds: how an entry's Addr is meant.
const (
	kindOff = iota
	kindTor
	kindNa4
	kindNapot
)

// An Addr is that of a byte without its low two bits: of 56 bits there are left 54.
const (
	addrWidth = 54
	addrBits  = 1<<addrWidth - 1
)

// entry is one entry, proper always.
type entry struct {
	cfg  uint8
	addr uint64
}

// entries are all sixteen. They come from of alone, so none of them can be other than proper.
type entries [count]entry

// of makes any Pmp proper.
func of(p api.Pmp) entries {
	var e entries
	for i := range count {
		e[i] = entry{properCfg(p.Cfg[i]), p.Addr[i] & addrBits}
	}
	return e
}

// told is the entries as they go out.
func (e *entries) told() api.Pmp {
	var p api.Pmp
	for i := range count {
		p.Cfg[i], p.Addr[i] = e[i].cfg, e[i].addr
	}
	return p
}

// properCfg is what a Cfg byte keeps of these bits: W goes where R is not.
func properCfg(v uint8) uint8 {
	if v&api.R == 0 {
		v &^= api.W
	}
	return v & cfgBits
}

// rights are the entry's bits of api.R, api.W and api.X.
func (one entry) rights() int {
	return int(one.cfg & allRights)
}

func (one entry) kind() uint8 {
	return one.cfg >> kindShift & kindBits
}

func (one entry) locked() bool {
	return one.cfg&lockBit != 0
}

// cfgLocked tells whether an entry's Cfg takes no write. An entry that is not there takes none.
func (e *entries) cfgLocked(i int) bool {
	return !isEntry(i) || e[i].locked()
}

// addrLocked tells whether an entry's Addr takes no write. A locked range that begins at this Addr holds it too, else the range could be moved.
func (e *entries) addrLocked(i int) bool {
	return e.cfgLocked(i) || i+1 < count && e[i+1].locked() && e[i+1].kind() == kindTor
}

func isEntry(i int) bool {
	return i >= 0 && i < count
}

// firstOf is the first entry of a pmpcfg register: false, if there is no such register.
func firstOf(reg int) (int, bool) {
	switch reg {
	case 0:
		return 0, true
	case 2:
		return perReg, true
	}
	return 0, false
}
