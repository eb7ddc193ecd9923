// Package mstatus: the fields of Mstatus, which csr keeps and the layers above turn: see DOC.md, section "Proper".
package mstatus

import "anvil/api"

// The fields' bits, and what UXL is always.
const (
	Mie   = 1 << 3
	Mpie  = 1 << 7
	Mpp   = api.M << mppAt
	Mprv  = 1 << 17
	Tw    = 1 << 21
	Uxl64 = 2 << 32
)

const mppAt = 11

// Before is the mode that MPP tells.
func Before(v uint64) int { return int(v & Mpp >> mppAt) }

// WithBefore is the same bits with an MPP that tells this mode.
func WithBefore(v uint64, mode int) uint64 {
	return v&^Mpp | uint64(mode)<<mppAt&Mpp
}
