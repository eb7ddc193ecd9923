package csr

import (
	"anvil/api"
	"anvil/mstatus"
	"anvil/pmp"
)

// register is how a CSR is read, and what a write does.
type register struct {
	read  func() uint64
	write func(v uint64)
}

// word is a CSR that the Cpu keeps in a field: of what is written it keeps these bits.
type word struct {
	at   *uint64
	kept uint64
}

func (w word) read() uint64 { return *w.at }

func (w word) write(v uint64) { *w.at = v & w.kept }

func (w word) register() register { return register{w.read, w.write} }

// status is mstatus: where what is written names no mode, MPP stays.
type status struct {
	at *uint64
}

func (s status) read() uint64 { return *s.at }

func (s status) write(v uint64) {
	if !namesMode(v) {
		v = mstatus.WithBefore(v, mstatus.Before(*s.at))
	}
	*s.at = properStatus(v)
}

func (s status) register() register { return register{s.read, s.write} }

// told is a CSR whose value comes from elsewhere: a write is lost.
type told uint64

func (n told) read() uint64 { return uint64(n) }

func (n told) write(uint64) {}

func (n told) register() register { return register{n.read, n.write} }

// config is a pmpcfg register, by the number in its name.
type config struct {
	at  *api.Pmp
	reg int
}

func (g config) read() uint64 { return pmp.Cfg(*g.at, g.reg) }

func (g config) write(v uint64) { *g.at = pmp.SetCfg(*g.at, g.reg, v) }

func (g config) register() register { return register{g.read, g.write} }

// address is a pmpaddr register, by its entry.
type address struct {
	at    *api.Pmp
	entry int
}

func (a address) read() uint64 { return a.at.Addr[a.entry] }

func (a address) write(v uint64) { *a.at = pmp.SetAddr(*a.at, a.entry, v) }

func (a address) register() register { return register{a.read, a.write} }
