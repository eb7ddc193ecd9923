package arith

// The operations on lower halves are those on words, of halves that were made words: where a half's sign counts it is widened, where it does not count upper bits are cleared. The result is widened always.

func addw(a, b uint64) uint64 { return widen(add(a, b)) }

func subw(a, b uint64) uint64 { return widen(sub(a, b)) }

func sllw(a, b uint64) uint64 { return widen(sll(a, b%32)) }

func srlw(a, b uint64) uint64 { return widen(srl(half(a), b%32)) }

func sraw(a, b uint64) uint64 { return widen(sra(widen(a), b%32)) }

func mulw(a, b uint64) uint64 { return widen(mul(a, b)) }

func divw(a, b uint64) uint64 { return widen(div(widen(a), widen(b))) }

func divuw(a, b uint64) uint64 { return widen(divu(half(a), half(b))) }

func remw(a, b uint64) uint64 { return widen(rem(widen(a), widen(b))) }

func remuw(a, b uint64) uint64 { return widen(remu(half(a), half(b))) }
