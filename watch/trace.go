package watch

import (
	"anvil/api"
	"anvil/csr"
)

// endRule is the number of the one rule over a trace's end; those ahead of it are over its rows.
const endRule = 6

// rowRule is one rule of a trace's rows: its number, and what tells whether the row at a place keeps it.
type rowRule struct {
	number int
	kept   func(i int) bool
}

// rowRules are all rules of a trace's rows in their order. Of the rows ahead of the one that is asked for, seen has how many are of each kind.
func rowRules(rows []api.Row, seen map[int]int) []rowRule {
	return []rowRule{
		{1, func(i int) bool { return rows[i].Step == i+1 }},
		{2, func(i int) bool { return i == 0 || follows(rows[i-1], rows[i]) }},
		{3, func(i int) bool { return formed(rows[i]) }},
		{4, func(i int) bool { return seen[api.RowOff] == 0 || rows[i].Kind == api.RowOff && stays(rows[i]) }},
		{5, func(i int) bool { return turns(rows[i]) }},
	}
}

// follows tells whether a row begins where the one ahead of it ends.
func follows(ahead, r api.Row) bool { return r.Pc == ahead.Next && r.Mode == ahead.NextMode }

// stays tells whether a row ends where it begins.
func stays(r api.Row) bool { return r.Next == r.Pc && r.NextMode == r.Mode }

// formed tells whether a row has 0 wherever a row of its kind has nothing to tell.
func formed(r api.Row) bool {
	return isKind(r.Kind) && isMode(r.Mode) && isMode(r.NextMode) && isEven(r.Pc) && isEven(r.Next) &&
		tellsCause(r) && tellsLength(r) && tellsDeeds(r)
}

func isEven(at uint64) bool { return at%parcelBytes == 0 }

func tellsCause(r api.Row) bool {
	switch r.Kind {
	case api.RowException:
		return r.Cause&interruptBit == 0
	case api.RowInterrupt:
		return r.Cause&interruptBit != 0 && r.Tval == 0
	}
	return r.Cause == 0 && r.Tval == 0
}

// tellsLength: an exception may have come ahead of the instruction's end, which has no length then.
func tellsLength(r api.Row) bool {
	is := r.Len == parcelBytes || r.Len == wordBytes
	switch r.Kind {
	case api.RowRetire:
		return is
	case api.RowException:
		return is || r.Len == 0
	}
	return r.Raw == 0 && r.Len == 0
}

func tellsDeeds(r api.Row) bool {
	switch {
	case r.Kind != api.RowRetire:
		return didNothing(r)
	case r.Rd == 0 && r.Val != 0:
		return false
	case r.Mem == 0:
		return reachedNothing(r)
	case r.Mem == api.R:
		return r.Data == 0
	}
	return true
}

// turns tells whether a row may lead from where it begins to where it ends.
func turns(r api.Row) bool {
	switch r.Kind {
	case api.RowWait:
		return stays(r)
	case api.RowException, api.RowInterrupt:
		return r.NextMode == api.M
	case api.RowRetire:
		return r.NextMode == r.Mode || leaves(r, r.Mode, r.NextMode)
	}
	return true
}

// ends tells whether a trace's Cpu stands where its last row ends.
func ends(t api.Trace) bool {
	n := len(t.Rows)
	return n == 0 || endsAt(t.Rows[n-1], csr.Proper(t.Cpu))
}
