package deck_test

import (
	"encoding/hex"
	"errors"
	"fmt"
	"math/rand/v2"
	"strings"
	"testing"

	"anvil/api"
	"anvil/deck"
)

// heldTo: Parse must answer what the model does; it tells the fault, OK if there is none.
func heldTo(t *testing.T, text string) api.Errno {
	t.Helper()
	d, err := deck.Parse(text)
	want, fault := modelParse(text)
	if fault == nil {
		if err != nil || !sameDeck(d, want) {
			t.Fatalf("P14.1: %q:\n%+v, %v, want\n%+v", text, d, err, want)
		}
		return api.OK
	}
	var f *api.Fault
	if !errors.As(err, &f) || *f != *fault || !sameDeck(d, api.Deck{}) {
		t.Fatalf("P14.1: %q:\n%+v, %v, want %v", text, d, err, fault)
	}
	return fault.Why
}

// one is any of some texts.
func one(r *rand.Rand, texts ...string) string { return texts[r.IntN(len(texts))] }

func anyNumber(r *rand.Rand) string {
	switch r.IntN(12) {
	case 0:
		return fmt.Sprint("-", r.IntN(9))
	case 1:
		return one(r, "-1", "18446744073709551615", "0xffffffffffffffff", "-9223372036854775808")
	case 2:
		if r.IntN(6) == 0 {
			return one(r, "18446744073709551616", "x", "0x", "-9223372036854775809", "1e", `"1"`)
		}
	}
	return fmt.Sprintf(one(r, "%d", "0x%x", "0x%X", "%#o"), r.Uint64()>>r.IntN(64))
}

func anyCount(r *rand.Rand) string {
	if r.IntN(20) == 0 {
		return anyNumber(r)
	}
	return fmt.Sprintf(one(r, "%d", "0x%x"), r.IntN(18))
}

// anyPiece is one line of a deck, or several that go together, mostly without a fault.
func anyPiece(t *testing.T, r *rand.Rand) string {
	switch r.IntN(17) {
	case 0:
		return one(r, "", " ", "#", "# x", "\t# \"")
	case 1:
		return "mtime " + anyNumber(r)
	case 2:
		return "pc " + anyNumber(r)
	case 3:
		return "mode " + one(r, "m", "u", "m", "u", "m", "u", "m", "u", "s", "M")
	case 4:
		return "waiting"
	case 5:
		return "reg " + one(r, "a0", "x31", "zero", "fp", "t6", "ra", "x5", "a9") + " " + anyNumber(r)
	case 6:
		own := csrsOf()[r.IntN(12)]
		return "csr " + one(r, own.name, own.name, fmt.Sprint(own.number), fmt.Sprintf("0x%x", own.number), own.name, "mip") + " " + anyNumber(r)
	case 7:
		return "pmp " + anyCount(r) + " " + anyNumber(r) + " " + anyNumber(r)
	case 8:
		return "res " + anyNumber(r) + " " + one(r, "4", "8", "4", "8", "4", "8", "2")
	case 9, 10:
		return anyPart(r)
	case 11:
		return anyElf(t, r)
	case 12:
		src := one(r, "nop", "_start: j _start", "nop\n.data\n.byte 1", "# x\n\nnop", ".zero 8", "", "x: .word x\n.bss\n.zero 4", "bla", "nop\n j 1f", "end: ret")
		return "source\n" + src + one(r, "\nend", "\n end\t", "\nend", "\nend", "\nend", "\nends")
	}
	return anyWorld(r)
}

func anyPart(r *rand.Rand) string {
	size := r.IntN(20)
	text := fmt.Sprintf("part 0x%x %d %s", ram+r.IntN(48), size, one(r, "-", "r", "w", "x", "rw", "rx", "wx", "rwx", "rw", "rx", "xr"))
	left := size + r.IntN(9)/8
	for left > 0 && r.IntN(3) > 0 {
		own := 1 + r.IntN(left)
		text += one(r, "\ndata ", "\n# x\ndata ", "\n\n \t data\t") + hex.EncodeToString(bytesUpTo(own))
		left -= own
	}
	return text
}

func anyElf(t *testing.T, r *rand.Rand) string {
	var parts []api.Seg
	addr := uint64(ram - r.IntN(20)/19)
	for range r.IntN(3) {
		data := bytesUpTo(r.IntN(6))
		p := api.Seg{Addr: addr, Size: uint64(len(data) + 1 + r.IntN(6)), Flags: r.IntN(8), Data: data}
		parts = append(parts, p)
		addr += p.Size + uint64(r.IntN(9))
	}
	b := file(t, r.Uint64()&^1, parts...)
	if r.IntN(4) == 0 {
		b[r.IntN(len(b))] ^= byte(1 + r.IntN(255))
	}
	if r.IntN(8) == 0 {
		b = b[:r.IntN(len(b))]
	}
	return "elf\n" + strings.Join(dataLines(b, 1+r.IntN(40)), one(r, "\n", "\n", "\n# x\n", "\n\n"))
}

func anyWorld(r *rand.Rand) string {
	text := "step"
	if r.IntN(3) == 0 {
		text = "steps " + one(r, "1", "2", "3", "0x2", "17", "1000", "4000", "0", "-1")
	}
	for _, w := range []string{"tick", "ext", "soft", `input "a"`, `input "\x00\n\"\\"`, `input ""`, "tick"} {
		if r.IntN(5) == 0 {
			text += one(r, " ", "  ", "\t") + w
		}
	}
	return text
}

// anyText is a deck's text, its worlds mostly at the end.
func anyText(t *testing.T, r *rand.Rand) string {
	lines := []string{"anvil 1", one(r, "ram 64", "ram 64", "ram 0x40", "ram 16", "ram 8", "ram 65536", "# x\nram 64")}
	for range r.IntN(8) {
		if own := anyPiece(t, r); !strings.HasPrefix(own, "step") || r.IntN(9) == 0 {
			lines = append(lines, own)
		}
	}
	for range r.IntN(5) {
		lines = append(lines, anyWorld(r))
	}
	return strings.Join(lines, "\n") + one(r, "", "\n", "\n\n")
}

// TestP14_1Any: texts of every kind of line against the model.
func TestP14_1Any(t *testing.T) {
	t.Parallel()
	r := random(1)
	seen := map[api.Errno]int{}
	for range 12000 {
		seen[heldTo(t, anyText(t, r))]++
	}
	for _, why := range []api.Errno{api.OK, api.ErrLine, api.ErrName, api.ErrSetting, api.ErrMany, api.ErrWord, api.ErrNoName, api.ErrMagic, api.ErrEnd} {
		if seen[why] < 20 {
			t.Errorf("error %d was seen %d times: the test has grown idle", why, seen[why])
		}
	}
}

// TestP14_1Changed: texts of which some bytes are changed, lost or doubled, against the model.
func TestP14_1Changed(t *testing.T) {
	t.Parallel()
	r := random(2)
	good := 0
	for range 40000 {
		text := anyText(t, r)
		for range 1 + r.IntN(2) {
			at := r.IntN(len(text))
			text = text[:at] + one(r, "", text[at:at+1]+text[at:at+1], " ", "\n", "\t", "\"", "\\", "0", "x", "#", "\r", "-", "\x00", "\xff", "data", "end", "\n#", " \"a\"") + text[at+r.IntN(2):]
		}
		if heldTo(t, text) == api.OK {
			good++
		}
	}
	if good < 1000 {
		t.Errorf("%d of the texts are decks: the test has grown idle", good)
	}
}

// TestRule1AnyDeck: every text is answered, none by a panic, and as the model does.
func TestRule1AnyDeck(t *testing.T) {
	t.Parallel()
	r := random(3)
	const some = " \t\n\n\n\"\"\\#-0123456789abcdefxrwm=;>\r\x00\xff"
	words := []string{"anvil 1\n", "ram 64\n", "pc", "mode", "reg", "csr", "pmp", "res", "part", "data", "elf", "source", "end", "step", "steps", "tick", "input", "a0", "mie", "0x80000000"}
	for range 15000 {
		text := one(r, "", "anvil 1\n", "anvil 1\nram 64\n", "anvil 1\nram 64\n")
		for range r.IntN(12) {
			if r.IntN(2) == 0 {
				text += one(r, words...)
			} else {
				text += string(some[r.IntN(len(some))])
			}
		}
		heldTo(t, text)
	}
}
