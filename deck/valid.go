package deck

import "anvil/api"

// ramStep is what RAM has a multiple of, in bytes, from one on.
const ramStep = 8

// allFlags is every right that a part can have.
const allFlags = api.R | api.W | api.X

// isValid tells whether a deck can be played, and its parts' rights can be told.
func isValid(d api.Deck) bool {
	if !isRam(uint64(d.Ram)) || len(d.Parts) > api.MaxParts || len(d.Worlds) > api.MaxSteps {
		return false
	}
	for _, p := range d.Parts {
		if !liesInRam(p, d.Ram) || uint64(len(p.Data)) > p.Size || p.Flags < 0 || p.Flags > allFlags {
			return false
		}
	}
	for _, w := range d.Worlds {
		if len(w.Input) > api.MaxInput {
			return false
		}
	}
	return true
}

// isRam tells whether RAM can have so many bytes. (What is below 0 is a great number here.)
func isRam(size uint64) bool {
	return size >= ramStep && size <= api.MaxRam && size%ramStep == 0
}

// liesInRam tells whether a part lies within so many bytes of RAM. It is asked without a sum, which could wrap.
func liesInRam(p api.Seg, ram int) bool {
	size := uint64(ram)
	return p.Size <= size && p.Addr >= api.RamBase && p.Addr-api.RamBase <= size-p.Size
}
