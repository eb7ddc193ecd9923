package gdb_test

import (
	"fmt"
	"slices"
	"strings"
	"testing"

	"anvil/api"
)

// TestP17_4Talks: any talk with any computer, held against a second stub, answer by answer, with everything behind each one.
func TestP17_4Talks(t *testing.T) {
	t.Parallel()
	r := random(5)
	told := map[string]int{}
	for range 120 {
		d := anyDeck(t, r)
		s, m := made(t, d), modelOf(d)
		talk := ""
		for _, piece := range anyTalk(r, 40) {
			talk += piece
			got, want := string(s.Feed([]byte(piece))), m.hear(piece)
			if got != want {
				t.Fatalf("P17.4: for %q it sends %q, want %q, in the talk\n%q\nwith %+v", piece, got, want, talk, d)
			}
			if w := s.Whole(); !same(w, m.board.Whole()) || s.Steps() != m.steps {
				t.Fatalf("P17.4: behind %q the whole is\n%+v, want\n%+v; %d steps, want %d", piece, w, m.board.Whole(), s.Steps(), m.steps)
			}
			for _, kind := range []string{"T05watch", "T05rwatch", "T05awatch", "$S02", "$S05", "$W", "$OK", "$E01", "$E02", "$E03", "$#00"} {
				if strings.Contains(got, kind) {
					told[kind]++
				}
			}
		}
	}
	for kind, least := range map[string]int{"T05watch": 10, "T05rwatch": 10, "T05awatch": 30, "$S02": 100, "$S05": 200, "$W": 30, "$OK": 500, "$E01": 100, "$E02": 100, "$E03": 30, "$#00": 100} {
		if told[kind] < least {
			t.Errorf("%s is told %d times: too few to tell", kind, told[kind])
		}
	}
}

// fedIn is what a stub of a deck sends for pieces of a talk, all together, and its whole and steps.
func fedIn(t *testing.T, d api.Deck, pieces []string) (string, api.Whole, int) {
	t.Helper()
	s := made(t, d)
	all := ""
	for _, p := range pieces {
		all += string(s.Feed([]byte(p)))
	}
	return all, s.Whole(), s.Steps()
}

// cutAlike: a talk cut so must come to the same as in one piece.
func cutAlike(t *testing.T, d api.Deck, pieces []string) {
	t.Helper()
	got, w, steps := fedIn(t, d, pieces)
	want, whole, made := fedIn(t, d, []string{strings.Join(pieces, "")})
	if got != want || !same(w, whole) || steps != made {
		t.Errorf("P17.9: cut into %q it sends %q, want %q; %d steps, want %d", pieces, got, want, steps, made)
	}
}

// cuts is a talk cut where a bit of the number is set.
func cuts(talk string, at uint64) []string {
	var all []string
	from := 0
	for i := 1; i < len(talk); i++ {
		if at>>(i-1)&1 != 0 {
			all = append(all, talk[from:i])
			from = i
		}
	}
	return append(all, talk[from:])
}

// TestP17_9Every: every way of cutting short talks.
func TestP17_9Every(t *testing.T) {
	for _, talk := range []string{"$?#3f-$s#73", "$s#73-$s#72", "$$}#7d-$c}#", "$}\x1f#9c--$k#6b", "$D#44-$s#73"} {
		want, whole, steps := fedIn(t, little(), []string{talk})
		for at := range uint64(1) << (len(talk) - 1) {
			got, w, n := fedIn(t, little(), cuts(talk, at))
			if got != want || !same(w, whole) || n != steps {
				t.Fatalf("P17.9: %q, cut at %b, sends %q, want %q; %d steps, want %d", talk, at, got, want, n, steps)
			}
		}
	}
}

// TestP17_9Two: a long talk with every command cut at every place, byte by byte, and into pieces of each length; empty Feeds between.
func TestP17_9Two(t *testing.T) {
	talk := "+-"
	for _, p := range []string{"qSupported:x", "?", "g", "Z0,80000004,2", "s", "Z4,80000008,8", "c", "pa", "Pa=0100000000000000", "m80000000,8", "M80000008,2:0102", "X8000000a,3:#}$", "bad", "P20=" + word(ram), "vCont;c:1", "z0,80000004,2", "QStartNoAckMode", "s80000000", "g", "k", "s"} {
		talk += packet(p) + "-" + wrong(packet(p)) + "+"
	}
	d := little()
	d.Worlds = brought()
	for i := range len(talk) + 1 {
		cutAlike(t, d, []string{talk[:i], talk[i:]})
	}
	for n := 1; n < 40; n++ {
		var pieces []string
		for piece := range slices.Chunk([]byte(talk), n) {
			pieces = append(pieces, "", string(piece))
		}
		cutAlike(t, d, pieces)
	}
}

// TestP17_9Any: any talk cut anyhow.
func TestP17_9Any(t *testing.T) {
	t.Parallel()
	r := random(6)
	for range 60 {
		d := anyDeck(t, r)
		talk := strings.Join(anyTalk(r, 12), "")
		for _, most := range []int{1, 8, 200} {
			var pieces []string
			for rest := talk; rest != ""; rest = rest[len(pieces[len(pieces)-1]):] {
				pieces = append(pieces, rest[:min(len(rest), 1+r.IntN(most))])
			}
			cutAlike(t, d, pieces)
		}
	}
}

// isSent tells whether bytes are nothing but +, - and packets that Unpack takes.
func isSent(b string) bool {
	for b != "" {
		if b[0] == '+' || b[0] == '-' {
			b = b[1:]
			continue
		}
		end := strings.IndexByte(b, '#') + 3
		if end < 3 || end > len(b) || !takes(b[:end]) {
			return false
		}
		b = b[end:]
	}
	return true
}

// TestP17_10Any: any bytes at all, mostly of those that mean something: each Feed ends, and sends what it may.
func TestP17_10Any(t *testing.T) {
	r := random(7)
	sent := 0
	for i := range 3000 {
		s := made(t, little())
		talk := ""
		for range 1 + r.IntN(12) {
			piece := string(anyBytes(r, r.IntN(60)))
			switch r.IntN(5) {
			case 0:
				piece = string(anyOf(r, r.IntN(60), "$#}-+03fFs?gk,:;=aZzmMXPpGcDHT*"))
			case 1:
				piece = framed(strings.NewReplacer("#", "", "$", "").Replace(piece))
			case 2:
				piece = packet(string(anyOf(r, r.IntN(12), "ZzmMXPpGsHT?g0123489,,::=")))
			case 3:
				piece = packet(spoiled(r, looking(r)))
			}
			if i%3 == 0 && len(talk) == 0 {
				piece = packet("QStartNoAckMode")
			}
			talk += piece
			got := string(s.Feed([]byte(piece)))
			if !isSent(got) {
				t.Fatalf("P17.10: for %q it sends %q", talk, got)
			}
			sent += strings.Count(got, "$")
		}
		if m := modelOf(little()); string(made(t, little()).Feed([]byte(talk))) != m.hear(talk) {
			t.Fatalf("P17.10: for %q it sends something else than the second stub", talk)
		}
	}
	if sent < 3000 {
		t.Errorf("%d packets: too few to tell", sent)
	}
}

// TestP17_10Letters: each byte as the first of a payload, alone and with other bytes behind it, has an answer that is a packet, but k.
func TestP17_10Letters(t *testing.T) {
	for first := range 256 {
		for _, behind := range []string{"", "0", ",", "0,0", "0,0:", "0,0,0", "=", "\x00", "\xff\xff", strings.Repeat("0", 999), strings.Repeat("f", 528)} {
			s := made(t, little())
			payload := string([]byte{byte(first)}) + behind
			got := string(s.Feed([]byte(packet(payload))))
			want := modelOf(little()).hear(packet(payload))
			if got != want || !isSent(got) || strings.Count(got, "$") != 1 && payload != "k" {
				t.Errorf("P17.10: %.40q is answered %.80q, want %.80q", payload, got, want)
			}
		}
	}
}

// TestP17_10Fed: a Feed of many bytes that never end a packet sends nothing; the packet can still be ended.
func TestP17_10Fed(t *testing.T) {
	s := made(t, little())
	sum := 0
	fed(t, s, "$", "")
	for i := range 300 {
		piece := strings.Repeat(fmt.Sprint(i), 1000)
		for _, c := range []byte(piece) {
			sum += int(c)
		}
		fed(t, s, piece, "")
	}
	fed(t, s, fmt.Sprintf("#%02x", sum%256), "+"+packet("E03"))
	fed(t, s, asks, "+"+state)
}
