package exec

import "anvil/arith"

func (w *work) lui() { w.put(w.immediate()) }

func (w *work) auipc() { w.put(w.was.Pc + w.immediate()) }

func (w *work) jal() { w.link(w.was.Pc + w.immediate()) }

func (w *work) jalr() { w.link(w.first() + w.immediate()) }

// link goes to a target and keeps the way back.
func (w *work) link(target uint64) {
	w.put(w.next)
	w.next = target
}

func (w *work) branch() {
	if taken, _ := arith.Taken(w.in.Op, w.first(), w.second()); taken {
		w.next = w.was.Pc + w.immediate()
	}
}

func (w *work) computeImmediate() { w.compute(w.immediate()) }

func (w *work) computeRegisters() { w.compute(w.second()) }

func (w *work) compute(b uint64) {
	v, _ := arith.Compute(w.in.Op, w.first(), b)
	w.put(v)
}

// nothing is the body of the fences: one hart that does each access at once has nothing to put in order.
func (w *work) nothing() {}
