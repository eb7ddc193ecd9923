package arith

import "anvil/api"

// branch: when one of api's branches is taken; nil where the number is no branch.
type branch struct {
	holds func(a, b uint64) bool
}

// Taken tells whether a branch is taken; false, false: op is none.
func Taken(op int, a, b uint64) (bool, bool) {
	if op < 0 || op >= api.Ops {
		return false, false
	}
	holds := branches()[op].holds
	if holds == nil {
		return false, false
	}
	return holds(a, b), true
}

// branches is the table of what Taken knows, by api's numbers.
func branches() [api.Ops]branch {
	return [api.Ops]branch{
		api.OpBeq:  {func(a, b uint64) bool { return a == b }},
		api.OpBne:  {func(a, b uint64) bool { return a != b }},
		api.OpBlt:  {func(a, b uint64) bool { return int64(a) < int64(b) }},
		api.OpBge:  {func(a, b uint64) bool { return int64(a) >= int64(b) }},
		api.OpBltu: {func(a, b uint64) bool { return a < b }},
		api.OpBgeu: {func(a, b uint64) bool { return a >= b }},
	}
}
