// Package valid: which decks can be played, which deck tells and board begins with, and how much RAM there can be, which save asks too: see doc/15-board.md, section 15.1.
package valid

import "anvil/api"

// ramStep is what RAM has a multiple of, in bytes, from one on.
const ramStep = 8

// Deck tells whether a deck can be played. Its parts' flags do not count: RAM keeps no rights.
func Deck(d api.Deck) bool {
	if !Ram(uint64(d.Ram)) || len(d.Parts) > api.MaxParts || len(d.Worlds) > api.MaxSteps {
		return false
	}
	for _, p := range d.Parts {
		if !Place(p, d.Ram) || uint64(len(p.Data)) > p.Size {
			return false
		}
	}
	for _, w := range d.Worlds {
		if len(w.Input) > api.MaxInput {
			return false
		}
	}
	return true
}

// Ram tells whether RAM can have so many bytes. (What is below 0 is a great number here.)
func Ram(size uint64) bool {
	return size >= ramStep && size <= api.MaxRam && size%ramStep == 0
}

// Place tells whether a part lies within so many bytes of RAM. It is asked without a sum, which could wrap.
func Place(p api.Seg, ram int) bool {
	size := uint64(ram)
	return p.Size <= size && p.Addr >= api.RamBase && p.Addr-api.RamBase <= size-p.Size
}
