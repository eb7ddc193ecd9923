package exec

import (
	"anvil/api"
	"anvil/csr"
	"anvil/trap"
)

// The causes of the instructions that trap always.
const (
	breakpoint = 3
	callFromU  = 8
	callFromM  = 11
)

// The numbers of the counters that are written.
const (
	mcycle   = 0xb00
	minstret = 0xb02
)

func (w *work) ecall() {
	if w.was.Mode == api.U {
		w.stop(callFromU, 0)
	}
	w.stop(callFromM, 0)
}

func (w *work) ebreak() { w.stop(breakpoint, w.was.Pc) }

func (w *work) mret() {
	c, legal := trap.Return(w.cpu)
	w.insist(legal)
	w.cpu, w.next = c, c.Pc
}

func (w *work) wfi() {
	c, legal := trap.Wait(w.cpu)
	w.insist(legal)
	w.cpu = c
}

func (w *work) csrReplaced() {
	old := w.readCsr()
	w.writeCsr(w.operand())
	w.put(old)
}

func (w *work) csrSet() {
	old := w.readCsr()
	if w.in.Rs1 != 0 {
		w.writeCsr(old | w.operand())
	}
	w.put(old)
}

func (w *work) csrCleared() {
	old := w.readCsr()
	if w.in.Rs1 != 0 {
		w.writeCsr(old &^ w.operand())
	}
	w.put(old)
}

// operand is what a CSR instruction brings: a register's number, or, in the forms that end in i, Rs1 itself.
func (w *work) operand() uint64 {
	if w.in.Op >= api.OpCsrrwi {
		return uint64(w.in.Rs1)
	}
	return w.first()
}

// number is the CSR's.
func (w *work) number() int { return int(w.in.Imm) }

func (w *work) readCsr() uint64 {
	v, legal := csr.Read(w.cpu, w.bus.Mip(), w.bus.Time(), w.number())
	w.insist(legal)
	return v
}

// writeCsr writes, and notes it of the counters, which do not count at the step that writes them.
func (w *work) writeCsr(v uint64) {
	c, legal := csr.Write(w.cpu, w.number(), v)
	w.insist(legal)
	w.cpu = c
	w.done.WroteCycle = w.number() == mcycle
	w.done.WroteCount = w.number() == minstret
}
