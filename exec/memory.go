package exec

import (
	"anvil/access"
	"anvil/api"
	"anvil/arith"
)

func (w *work) loadSigned() { w.put(w.extended(w.load())) }

func (w *work) loadPlain() { w.put(w.load()) }

func (w *work) load() uint64 {
	at := w.first() + w.immediate()
	v, trap := access.Load(w.cpu, w.bus, at, w.size)
	w.pass(trap)
	w.tell(api.R, at, 0)
	return v
}

func (w *work) store() {
	at := w.first() + w.immediate()
	c, trap := access.Store(w.cpu, w.bus, at, w.size, w.second())
	w.pass(trap)
	w.cpu = c
	w.tell(api.W, at, w.second())
}

func (w *work) reserve() {
	v, c, trap := access.Reserve(w.cpu, w.bus, w.first(), w.size)
	w.pass(trap)
	w.cpu = c
	w.tell(api.R, w.first(), 0)
	w.put(w.extended(v))
}

func (w *work) conditional() {
	stored, c, trap := access.Conditional(w.cpu, w.bus, w.first(), w.size, w.second())
	w.pass(trap)
	w.cpu = c
	if !stored {
		w.put(1)
		return
	}
	w.tell(api.W, w.first(), w.second())
	w.put(0)
}

func (w *work) amo() {
	old, stored, c, trap := access.Amo(w.cpu, w.bus, w.in.Op, w.first(), w.second())
	w.pass(trap)
	w.cpu = c
	w.tell(api.R|api.W, w.first(), stored)
	w.put(w.extended(old))
}

// tell notes an access, and the lower bytes of what it stored.
func (w *work) tell(mem int, at, data uint64) {
	w.done.Mem, w.done.Addr, w.done.Size = mem, at, w.size
	w.done.Data = arith.Bits(data, 8*w.size-1, 0)
}

// extended is a number of the access's size, its sign extended.
func (w *work) extended(v uint64) uint64 { return arith.Extend(v, 8*w.size) }
