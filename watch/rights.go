package watch

import (
	"anvil/api"
	"anvil/pmp"
)

// mayReach tells whether an access can be of this kind, size and place, and passes in a mode.
func mayReach(r api.Row, p api.Pmp, mode int) bool {
	return isAccess(r.Mem) && isWidth(r.Size) && r.Addr%uint64(r.Size) == 0 && pmp.Check(p, mode, r.Addr, r.Size, r.Mem)
}

func isAccess(mem int) bool { return mem == api.R || mem == api.W || mem == api.R|api.W }

func isWidth(size int) bool {
	return size == byteBytes || size == parcelBytes || size == wordBytes || size == doubleBytes
}

// mayFetch tells whether the instruction of a row can have this length, and each of its parcels may be fetched.
func mayFetch(r api.Row, c api.Cpu) bool {
	switch r.Len {
	case parcelBytes:
		return mayFetchParcel(c, c.Pc)
	case wordBytes:
		return mayFetchParcel(c, c.Pc) && mayFetchParcel(c, c.Pc+parcelBytes)
	}
	return false
}

func mayFetchParcel(c api.Cpu, at uint64) bool {
	return pmp.Check(c.Pmp, c.Mode, at, parcelBytes, api.X)
}
