package arith

import "anvil/api"

// amo: what one of api's atomic memory operations makes of two words, and whether it is one of lower halves; nil where the number is no such operation.
type amo struct {
	do     func(old, b uint64) uint64
	halves bool
}

// Amo is what an atomic operation writes back; false: op is none.
func Amo(op int, old, b uint64) (uint64, bool) {
	if op < 0 || op >= api.Ops {
		return 0, false
	}
	entry := amos()[op]
	if entry.do == nil {
		return 0, false
	}
	if !entry.halves {
		return entry.do(old, b), true
	}
	// Widened halves stand in the same order as the halves, signed or not: so the comparisons need no form of their own.
	return widen(entry.do(widen(old), widen(b))), true
}

// amos is the table of what Amo knows, by api's numbers.
func amos() [api.Ops]amo {
	return [api.Ops]amo{
		api.OpAmoswapW: {swap, true},
		api.OpAmoaddW:  {add, true},
		api.OpAmoxorW:  {xor, true},
		api.OpAmoandW:  {and, true},
		api.OpAmoorW:   {or, true},
		api.OpAmominW:  {lesser, true},
		api.OpAmomaxW:  {greater, true},
		api.OpAmominuW: {lesserPlain, true},
		api.OpAmomaxuW: {greaterPlain, true},
		api.OpAmoswapD: {swap, false},
		api.OpAmoaddD:  {add, false},
		api.OpAmoxorD:  {xor, false},
		api.OpAmoandD:  {and, false},
		api.OpAmoorD:   {or, false},
		api.OpAmominD:  {lesser, false},
		api.OpAmomaxD:  {greater, false},
		api.OpAmominuD: {lesserPlain, false},
		api.OpAmomaxuD: {greaterPlain, false},
	}
}

func swap(old, b uint64) uint64 { return b }

func lesser(old, b uint64) uint64 { return uint64(min(int64(old), int64(b))) }

func greater(old, b uint64) uint64 { return uint64(max(int64(old), int64(b))) }

func lesserPlain(old, b uint64) uint64 { return min(old, b) }

func greaterPlain(old, b uint64) uint64 { return max(old, b) }
