package gdb_test

import (
	"encoding/hex"
	"fmt"
	"strings"
	"testing"

	"anvil/api"
	"anvil/board"
	"anvil/gdb"
)

// brings is the world that a deck has for the step of this number, from 0 on.
func brings(d api.Deck, step int) api.World {
	if step < len(d.Worlds) {
		return d.Worlds[step]
	}
	return api.World{}
}

// TestP17_7Looking: what looks changes nothing, at any time of a run: packets of every looking kind, whole, spoiled, with wrong sums, and anything between.
func TestP17_7Looking(t *testing.T) {
	t.Parallel()
	r := random(8)
	fixed := []string{"?", "g", "p20", "p341", "m80000000,8", "Z0,80000004,2", "Z4,80000040,8", "z0,80000004,2", "Hg0", "T1", "qC", "qSupported", "qAttached", "qfThreadInfo", "qsThreadInfo", "vCont?", "", "x", "vCont", "QStart", "QStartNoAckMode", "?"}
	for range 60 {
		d := anyDeck(t, r)
		s := made(t, d)
		for range 6 {
			s.Feed([]byte(packet(one(r, "s", "s", "s", "vCont;s", "c"))))
			stays(t, "P17.7", s, func() {
				for _, p := range fixed[:len(fixed)-2*r.IntN(2)] {
					s.Feed([]byte(packet(p) + "-+" + wrong(packet("s"))))
				}
				for range 30 {
					p := looking(r)
					if r.IntN(4) == 0 { // a letter of those that look stays ahead of what is spoiled
						p = "p" + spoiled(r, p)
					}
					s.Feed([]byte(packet(p)))
				}
			})
		}
	}
}

// TestP17_7Unseen: what looks is not seen in what comes behind either: a run with looks between is the run without.
func TestP17_7Unseen(t *testing.T) {
	t.Parallel()
	r := random(9)
	for range 40 {
		d := anyDeck(t, r)
		s, other := made(t, d), made(t, d)
		for range 20 {
			for range r.IntN(4) {
				p := looking(r)
				if p != "" && p[0] == 'Z' {
					p = "z" + p[1:]
				}
				s.Feed([]byte(packet(p)))
			}
			step := packet(one(r, "s", "s", "s", "c80000000", "s80000004"))
			mine, its := string(s.Feed([]byte(step))), string(other.Feed([]byte(step)))
			if mine != its {
				t.Fatalf("P17.7: %q is answered %q, want %q", step, mine, its)
			}
			holds(t, "P17.7", s, other.Whole(), other.Steps())
		}
	}
}

// TestP17_8Steps: n times s is the board with n steps, with the deck's worlds and then empty ones, whole by whole.
func TestP17_8Steps(t *testing.T) {
	t.Parallel()
	r := random(10)
	for range 150 {
		d := anyDeck(t, r)
		s, b := made(t, d), boarded(t, d)
		for n := range 40 {
			s.Feed([]byte(packet(one(r, "s", "vCont;s", "vCont;s:1"))))
			if b.Whole().Bus.Off != api.Running {
				holds(t, "P17.8: off", s, b.Whole(), n)
				break
			}
			b.Step(brings(d, n))
			holds(t, "P17.8", s, b.Whole(), n+1)
		}
	}
}

// TestP17_8Runs: a c that makes n steps is n times s.
func TestP17_8Runs(t *testing.T) {
	t.Parallel()
	r := random(11)
	lengths := map[int]int{}
	for range 60 {
		d := anyDeck(t, r)
		s, other := made(t, d), made(t, d)
		for range r.IntN(5) {
			s.Feed([]byte(packet("Z" + anyStop(r))))
		}
		for range 3 {
			was := s.Steps()
			s.Feed([]byte(packet(one(r, "c", "vCont;c", "vCont;c:1"))))
			for range s.Steps() - was {
				other.Feed([]byte(packet("s")))
			}
			holds(t, "P17.8", s, other.Whole(), other.Steps())
			lengths[s.Steps()-was]++
		}
	}
	if lengths[maxRun] < 10 || len(lengths) < 10 {
		t.Errorf("%v: too few to tell", lengths)
	}
}

// firstStand is how many steps a board makes till it stands at one of the places, behind one step at least; false: not within MaxRun.
func firstStand(b *board.Board, d api.Deck, steps int, places map[uint64]bool) (int, bool) {
	for n := 1; n <= maxRun; n++ {
		b.Step(brings(d, steps+n-1))
		w := b.Whole()
		if w.Bus.Off != api.Running {
			return n, false
		}
		if places[w.Cpu.Pc] && !w.Cpu.Waiting {
			return n, true
		}
	}
	return maxRun, false
}

// TestP12Breakpoints: a continue stops ahead of the first step, behind its own first one, at which the hart stands at a breakpoint's address.
func TestP12Breakpoints(t *testing.T) {
	t.Parallel()
	r := random(12)
	stood := 0
	for range 80 {
		d := anyDeck(t, r)
		s, b := made(t, d), boarded(t, d)
		places := map[uint64]bool{}
		for range 1 + r.IntN(4) {
			at := ram + 2*r.Uint64N(16)
			places[at] = true
			ask(t, s, fmt.Sprintf("Z%d,%x,%x", r.IntN(2), at, r.IntN(5)), "OK")
		}
		for range 6 {
			if b.Whole().Bus.Off != api.Running {
				break
			}
			was := s.Steps()
			n, is := firstStand(b, d, was, places)
			got := string(s.Feed([]byte(packet("c"))))
			holds(t, "P12", s, b.Whole(), was+n)
			if is {
				stood++
			}
			if is != (got == "+$S05#b8") {
				t.Errorf("P12: behind %d steps c is answered %q", n, got)
			}
		}
	}
	if stood < 100 {
		t.Errorf("%d stops: too few to tell", stood)
	}
}

// TestP17_11Bytes: behind an OK of M or X, m of the same place and length answers those bytes.
func TestP17_11Bytes(t *testing.T) {
	r := random(13)
	s := made(t, bare(2048))
	put := 0
	for range 600 {
		n := one(r, 0, 1, 8, r.IntN(200), 490, 493, 500)
		at := ram + r.Uint64N(2060)
		b := anyBytes(r, n)
		payload := fmt.Sprintf("X%x,%x:%s", at, n, b)
		if r.IntN(2) == 0 {
			payload = fmt.Sprintf("M%x,%x:%X", at, n, b)
		}
		if len(payload) > maxPacket {
			continue
		}
		got := string(s.Feed([]byte(packet(payload))))
		if (got == "+$OK#9a") != (n == 0 || at+uint64(n) <= ram+2048) {
			t.Errorf("P17.11: %.20q is answered %q", payload, got)
		}
		if got == "+$OK#9a" {
			asked(t, s, hex.EncodeToString(b), fmt.Sprintf("m%x,%x", at, n))
			put++
		}
	}
	if put < 300 {
		t.Errorf("%d times: too few to tell", put)
	}
}

// TestP17_11Registers: behind an OK of G, g answers those digits, but x0's and pc's lowest bit; behind one of P, p does so too where all is kept.
func TestP17_11Registers(t *testing.T) {
	r := random(14)
	for range 200 {
		s := made(t, anyDeck(t, r))
		digits := anyDigits(r, 264)
		ask(t, s, "G"+digits, "OK")
		pc := word(value(digits[512:]) &^ 1)
		asked(t, s, strings.Repeat("0", 16)+strings.ToLower(digits[16:512])+pc, "g")
		n := 1 + r.IntN(31)
		v := r.Uint64()
		ask(t, s, fmt.Sprintf("P%x=%s", n, word(v)), "OK")
		asked(t, s, word(v), fmt.Sprintf("p%x", n))
		asked(t, s, pc, "p20")
		for _, num := range []int{0x340, 0x342, 0x343, 0xb00, 0xb02} {
			ask(t, s, fmt.Sprintf("P%x=%s", 65+num, word(v)), "OK")
			asked(t, s, word(v), fmt.Sprintf("p%x", 65+num))
		}
	}
}

// TestRule4Apart: stubs have nothing to do with one another, and the same talk comes to the same again.
func TestRule4Apart(t *testing.T) {
	t.Parallel()
	r := random(15)
	for range 20 {
		decks := []api.Deck{anyDeck(t, r), anyDeck(t, r)}
		talks := [][]string{anyTalk(r, 15), anyTalk(r, 15)}
		stubs := []*gdb.Stub{made(t, decks[0]), made(t, decks[1])}
		var sent [2]string
		for i := range max(len(talks[0]), len(talks[1])) {
			for j, s := range stubs {
				if i < len(talks[j]) {
					sent[j] += string(s.Feed([]byte(talks[j][i])))
				}
			}
		}
		for j, s := range stubs {
			want, whole, steps := fedIn(t, decks[j], talks[j])
			if sent[j] != want {
				t.Fatalf("rule 4: beside another stub it sends %q, want %q", sent[j], want)
			}
			holds(t, "rule 4", s, whole, steps)
		}
	}
}
