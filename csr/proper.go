package csr

import (
	"anvil/api"
	"anvil/mstatus"
	"anvil/pmp"
)

// The counters' bits in Mcounteren and Mcountinhibit.
const (
	cycleBit = 1 << iota
	timeBit
	instretBit
)

// Which bits each CSR keeps. The time is counted by the bus, so that the hart can't inhibit it.
const (
	everyBit      = 1<<64 - 1
	evenBits      = everyBit &^ 1
	statusBits    = mstatus.Mie | mstatus.Mpie | mstatus.Mpp | mstatus.Mprv | mstatus.Tw
	vectorBits    = everyBit &^ 2
	interruptBits = 1<<3 | 1<<7 | 1<<11
	enableBits    = cycleBit | timeBit | instretBit
	inhibitBits   = cycleBit | instretBit
	envcfgBits    = 1
)

// Proper makes any Cpu such as can be.
func Proper(c api.Cpu) api.Cpu {
	c.Pc &= evenBits
	c.X[0] = 0
	if c.Mode != api.M {
		c.Mode = api.U
	}
	c.Mstatus = properStatus(c.Mstatus)
	c.Mtvec &= vectorBits
	c.Mie &= interruptBits
	c.Mcounteren &= enableBits
	c.Mcountinhibit &= inhibitBits
	c.Menvcfg &= envcfgBits
	c.Mepc &= evenBits
	c.Pmp = pmp.Proper(c.Pmp)
	if !reserves(c.Res) {
		c.Res = api.Res{}
	}
	return c
}

// properStatus is what Mstatus can be of these bits: an MPP that is no mode becomes U.
func properStatus(v uint64) uint64 {
	if !namesMode(v) {
		v &^= mstatus.Mpp
	}
	return v&statusBits | mstatus.Uxl64
}

// namesMode tells whether the MPP of these bits is a mode that the hart has.
func namesMode(v uint64) bool {
	mode := mstatus.Before(v)
	return mode == api.U || mode == api.M
}

// reserves tells whether there can be such a reservation.
func reserves(r api.Res) bool {
	return r.Valid && (r.Size == 4 || r.Size == 8) && r.Addr%uint64(r.Size) == 0
}
