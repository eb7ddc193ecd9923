package deck_test

import (
	"testing"

	"anvil/api"
	"anvil/csr"
	"anvil/deck"
)

// back: what Print gives must read back as the deck, its Cpu made proper.
func back(t *testing.T, d api.Deck) {
	t.Helper()
	text, why := deck.Print(d)
	if why != api.OK {
		t.Fatalf("P14.3: error %d", why)
	}
	d.Cpu = csr.Proper(d.Cpu)
	if got, err := deck.Parse(text); err != nil || !sameDeck(got, d) {
		t.Fatalf("P14.3: %q is\n%+v, %v, want\n%+v", shown(text), got, err, d)
	}
}

// TestP14_3Deck: decks with every kind of line read back as they were.
func TestP14_3Deck(t *testing.T) {
	t.Parallel()
	r := random(5)
	for range 2000 {
		back(t, anyDeck(r))
	}
	back(t, plain(8))
	back(t, api.Deck{Ram: maxRam})
	great := plain(maxRam)
	great.Mtime = 1<<64 - 1
	for i := range maxParts {
		great.Parts = append(great.Parts, api.Seg{Addr: ram + uint64(i), Size: 4096, Flags: i % 8, Data: bytesUpTo(256 * i)})
	}
	for i := range maxSteps {
		great.Worlds = append(great.Worlds, api.World{Tick: i%2 == 0, Input: []byte{byte(i)}})
	}
	back(t, great)
}

// TestP14_3Bytes: each byte may stand in an input, first, last and alone, and as a part's byte.
func TestP14_3Bytes(t *testing.T) {
	for b := range 256 {
		d := plain(8)
		d.Parts = []api.Seg{{Addr: ram, Size: 2, Data: []byte{byte(b), byte(255 - b)}}}
		d.Worlds = []api.World{{Input: []byte{byte(b)}}, {Input: []byte{'x', byte(b)}}, {Input: []byte{byte(b), '0', 'n'}}, {Input: []byte{byte(b), byte(b), '\\'}}}
		back(t, d)
	}
}

// TestP14_3Text: of a text that is read, what is printed reads back as the same deck, and is printed like that again.
func TestP14_3Text(t *testing.T) {
	t.Parallel()
	r := random(6)
	good := 0
	for range 4000 {
		d, err := deck.Parse(anyText(t, r))
		if err != nil {
			continue
		}
		good++
		text, why := deck.Print(d)
		if why != api.OK {
			t.Fatalf("P14.3: error %d of a deck that was read", why)
		}
		reads(t, text, d)
		again, _ := deck.Parse(text)
		prints(t, again, text)
	}
	if good < 300 {
		t.Errorf("%d texts were read: the test has grown idle", good)
	}
}
