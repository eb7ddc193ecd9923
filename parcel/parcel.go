// Package parcel: which 16 bit instructions say a record. Several may: encode takes the least of them, speak the one that has a name.
package parcel

import (
	"slices"

	"anvil/api"
	"anvil/decode"
	"anvil/layout"
)

// length is how many bytes a parcel has.
const length = 2

// form is a kind of parcels: the bits that tell it, and where the rest stands.
type form struct {
	bits   uint16
	fields func() layout.Fields
}

// Of is all parcels that are read as the record (but for Len and Raw), in rising order.
func Of(in api.Instr) []uint16 {
	var all []uint16
	for _, f := range forms()[in.Op] {
		if p := f.bits | uint16(f.fields().Lay(in)); says(p, in) {
			all = append(all, p)
		}
	}
	slices.Sort(all)
	return all
}

// says tells whether a parcel is read as the record. A form may lose what it has no room for: this finds it out.
func says(p uint16, in api.Instr) bool {
	in.Len, in.Raw = length, uint32(p)
	return decode.Decode(in.Raw) == in
}
