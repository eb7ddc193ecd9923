package board_test

import (
	"testing"

	"anvil/api"
	"anvil/decode"
)

// follows plays a deck step by step, and holds each row and the whole behind it against the machine. It answers the rows.
func follows(t *testing.T, d api.Deck) []api.Row {
	t.Helper()
	b, m := made(t, d), begun(d)
	var rows []api.Row
	for i, w := range append([]api.World{{}}, d.Worlds...) {
		if i > 0 {
			got, want := b.Step(w), m.step(w)
			if got != want {
				t.Fatalf("P1: the row is\n%+v, want\n%+v, of\n%s", got, want, printed(t, d))
			}
			rows = append(rows, got)
		}
		if got, want := b.Whole(), m.whole(); !sameWhole(got, want) {
			t.Fatalf("P1: behind step %d the whole is\n%+v, want\n%+v, of\n%s", i, got, want, printed(t, d))
		}
	}
	if tr, want := played(t, d), ended(rows, m.whole()); !sameTrace(tr, want) {
		t.Fatalf("P15.5: the trace is\n%+v, want\n%+v, of\n%s", tr, want, printed(t, d))
	}
	return rows
}

// TestP1Refinement: of decks of every kind each row, and the whole behind it, are what the document says.
func TestP1Refinement(t *testing.T) {
	t.Parallel()
	r := random(1)
	var seen [6]int
	causes := map[uint64]int{}
	ops := map[int]int{}
	for range 6000 {
		for _, row := range follows(t, anyDeck(r, 40)) {
			seen[row.Kind]++
			causes[row.Cause]++
			if row.Kind == api.RowRetire {
				ops[decode.Decode(row.Raw).Op]++
			}
		}
	}
	for kind := api.RowRetire; kind <= api.RowOff; kind++ {
		if seen[kind] < 500 {
			t.Errorf("%d rows of kind %d: too few to tell", seen[kind], kind)
		}
	}
	for _, cause := range []uint64{1, 2, 3, 4, 5, 6, 7, 8, 11, 1<<63 + 3, 1<<63 + 7, 1<<63 + 11} {
		if causes[cause] < 100 {
			t.Errorf("%d traps of cause %#x: too few to tell", causes[cause], cause)
		}
	}
	for op := 1; op < api.Ops; op++ {
		if ops[op] < 20 && op != api.OpEcall && op != api.OpEbreak {
			t.Errorf("%d times operation %d: too few to tell", ops[op], op)
		}
	}
}
