package board_test

import (
	"slices"
	"strings"
	"sync"
	"testing"

	"anvil/api"
	"anvil/board"
)

// alone is what Run answers of each text, one behind the other.
func alone(texts []string) []string {
	all := make([]string, 0, len(texts))
	for _, text := range texts {
		told, _ := board.Run(text)
		all = append(all, told)
	}
	return all
}

// mixed is so many texts: decks short and long, all of them different, and some that are none.
func mixed(t *testing.T, seed uint64, n int) []string {
	t.Helper()
	r := random(seed)
	var texts []string
	for i := range n {
		switch r.IntN(8) {
		case 0:
			texts = append(texts, one(r, "", "no deck", "anvil 1\nram 8\nbla\n", strings.Repeat("x", 2000), "anvil 1\nram 64\nsource\nj there\nend\n"))
		case 1:
			d := sourced(t, 64, "1: addi a0, a0, 1", "j 1b")
			d.Cpu.X[11], d.Worlds = uint64(i), worlds(r.IntN(1500))
			texts = append(texts, printed(t, d))
		default:
			texts = append(texts, printed(t, anyDeck(r, r.IntN(80))))
		}
	}
	return texts
}

// are: Many must answer this of these texts.
func are(t *testing.T, texts, want []string) {
	t.Helper()
	got, e := board.Many(texts)
	if e != api.OK || len(got) != len(texts) {
		t.Fatalf("P15.7: Many answers %d texts of %d, error %d", len(got), len(texts), e)
	}
	for i := range got {
		if got[i] != want[i] {
			t.Errorf("P13: in place %d stands\n%s, want\n%s", i, got[i], want[i])
		}
	}
}

// TestP15_7Count: Many of no text, of one, of MaxDecks, and of one more.
func TestP15_7Count(t *testing.T) {
	are(t, nil, nil)
	are(t, []string{}, nil)
	text := examples()[1].deck
	want := head + examples()[1].trace
	for _, n := range []int{1, 2, 3, 7, 8, 9, 63, maxDecks} {
		are(t, slices.Repeat([]string{text}, n), slices.Repeat([]string{want}, n))
		are(t, make([]string, n), make([]string, n))
	}
	for _, n := range []int{maxDecks + 1, maxDecks + 2, 2 * maxDecks, 1000} {
		for _, text := range []string{text, ""} {
			if got, e := board.Many(slices.Repeat([]string{text}, n)); got != nil || e != api.ErrMany {
				t.Errorf("P15.7: Many of %d answers %d texts, error %d", n, len(got), e)
			}
		}
	}
}

// TestP15_7Examples: the ten examples at once, each in its place, and what is no deck in its own.
func TestP15_7Examples(t *testing.T) {
	var texts, want []string
	for i, one := range slices.Concat(examples(), examples(), examples(), examples()) {
		texts, want = append(texts, one.deck), append(want, head+one.trace)
		if i%3 == 0 {
			texts, want = append(texts, "no deck", ""), append(want, "", "")
		}
	}
	are(t, texts[:maxDecks], want[:maxDecks])
	slices.Reverse(texts)
	slices.Reverse(want)
	are(t, texts[:maxDecks], want[:maxDecks])
}

// TestP13Many: many decks at once are what each is alone, in their order, each time.
func TestP13Many(t *testing.T) {
	for seed := range uint64(6) {
		texts := mixed(t, 100+seed, maxDecks-int(seed)*9)
		want := alone(texts)
		for range 4 {
			are(t, texts, want)
		}
	}
}

// TestP13Together: calls of Many and Run at the same time have nothing to do with one another.
func TestP13Together(t *testing.T) {
	texts := mixed(t, 200, 24)
	want := alone(texts)
	var all sync.WaitGroup
	for k := range 6 {
		all.Go(func() {
			for range 3 {
				got, e := board.Many(texts[k:])
				if e != api.OK || !slices.Equal(got, want[k:]) {
					t.Errorf("P13: another list of traces, error %d", e)
				}
				if told, _ := board.Run(texts[k]); told != want[k] {
					t.Errorf("P13: another trace\n%s", told)
				}
			}
		})
	}
	all.Wait()
}

// TestP15_7Greatest: the greatest decks at once.
func TestP15_7Greatest(t *testing.T) {
	d := sourced(t, maxRam, "1: addi a0, a0, 1", "sd a0, 64(a1)", "j 1b")
	d.Cpu.X[11], d.Worlds = ram, worlds(maxSteps)
	d.Parts = append(d.Parts, api.Seg{Addr: ram + 64, Size: maxRam - 64})
	texts := slices.Repeat([]string{printed(t, d)}, maxDecks)
	want := ran(t, texts[0])
	if n := strings.Count(want, "\n"); n < maxSteps {
		t.Fatalf("%d lines", n)
	}
	are(t, texts, slices.Repeat([]string{want}, maxDecks))
}
