package board_test

import (
	"testing"

	"anvil/api"
)

// cuts plays a deck in two parts, with every cut that there is, by Whole and From, and holds the rows and the end against Play.
func cuts(t *testing.T, d api.Deck) {
	t.Helper()
	tr := played(t, d)
	end := func() api.Whole {
		b := made(t, d)
		steps(b, d.Worlds)
		return b.Whole()
	}()
	first := made(t, d)
	for n := range len(d.Worlds) + 1 {
		middle := first.Whole()
		second := again(t, middle)
		holds(t, "P15.8", second, middle)
		rows := steps(second, d.Worlds[n:])
		for i, row := range rows {
			if row.Step != i+1 {
				t.Fatalf("P15.2: cut behind %d: row %d has the number %d", n, i+1, row.Step)
			}
			rows[i].Step += n
		}
		if got, want := ended(rows, second.Whole()), ended(tr.Rows[n:], end); !sameTrace(got, want) {
			t.Fatalf("P15.8: cut behind %d: the second part is\n%+v, want\n%+v", n, got, want)
		}
		holds(t, "P15.8: the end", second, end)
		holds(t, "P15.8: the first part", first, middle)
		if n < len(d.Worlds) {
			if row := first.Step(d.Worlds[n]); row != tr.Rows[n] {
				t.Fatalf("P15.8: row %d is\n%+v, want\n%+v", n, row, tr.Rows[n])
			}
		}
	}
	if want := ended(tr.Rows, first.Whole()); !sameTrace(tr, want) {
		t.Fatalf("P15.5: the trace is\n%+v, want\n%+v", tr, want)
	}
}

// TestP15_8Cuts: playing n worlds and then m is playing n + m, for every cut.
func TestP15_8Cuts(t *testing.T) {
	for _, one := range examples() {
		cuts(t, read(t, one.deck))
	}
	for _, one := range programs() {
		cuts(t, one.deck(t))
	}
	r := random(12)
	for range 200 {
		cuts(t, anyDeck(r, r.IntN(40)))
	}
	cuts(t, ending(t, 5, 0x73333, 12))
}

// TestP7Composition: a play may be cut behind every step: each step on a board of its own is the play.
func TestP7Composition(t *testing.T) {
	r := random(13)
	for range 200 {
		d := anyDeck(r, 40)
		tr := played(t, d)
		w := made(t, d).Whole()
		for i, one := range d.Worlds {
			b := again(t, w)
			row := b.Step(one)
			if row.Step != 1 {
				t.Fatalf("P15.2: the first step has the number %d", row.Step)
			}
			if row.Step = i + 1; row != tr.Rows[i] {
				t.Fatalf("P7: the row is\n%+v, want\n%+v", row, tr.Rows[i])
			}
			w = b.Whole()
		}
		if want := ended(tr.Rows, w); !sameTrace(tr, want) {
			t.Fatalf("P7: the end is\n%+v, want\n%+v", want, tr)
		}
	}
}
