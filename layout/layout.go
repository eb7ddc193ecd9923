// Package layout: where the fields of a record stand in an instruction, long or short. Both kinds are laid by it.
package layout

import "anvil/api"

// Layout is where the bits of a number stand; nil: the number is not there at all.
type Layout []Piece

// Piece is bits of a number that stand together: the highest of them, the lowest, and which bit of the instruction the lowest is.
type Piece [3]uint8

// Fields is where a record's registers and its number stand.
type Fields struct{ Rd, Rs1, Rs2, Imm Layout }

// Lay is a number's bits where they stand. What the layout has no room for is lost.
func (l Layout) Lay(n int64) uint32 {
	all := uint32(0)
	for _, p := range l {
		high, low, at := p[0], p[1], p[2]
		mask := uint32(1)<<(high-low+1) - 1
		all |= (uint32(n>>low) & mask) << at
	}
	return all
}

// Lay is the bits of a record's registers and of its number.
func (f Fields) Lay(in api.Instr) uint32 {
	registers := f.Rd.Lay(int64(in.Rd)) | f.Rs1.Lay(int64(in.Rs1)) | f.Rs2.Lay(int64(in.Rs2))
	return registers | f.Imm.Lay(in.Imm)
}
