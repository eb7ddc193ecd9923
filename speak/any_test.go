package speak_test

import (
	"math/rand/v2"
	"strings"
	"testing"

	"anvil/api"
	"anvil/speak"
)

// crumbs are what texts are changed by.
var crumbs = []string{
	" ", "\t", "  ", ",", "(", ")", "-", "0x", "0", "1", "9", "a", "f", "F", "X", "x", ".", "+", "_", "#", "\n", "\r", "\x00", "\xff", "é", "٣",
	"i", "o", "r", "w", "sp", "zero", "s0", "a5", "a6", "fp", "x8", "x31", "x32", "mstatus", "0x300", "4096", ".aq", ".rl", "c.", "addi", "-1", "2048", "-2048", "31", "32", "63", "64",
	"0xffffffffffffffff", "18446744073709551616", "-9223372036854775808", "0x80000000", "0x80000002",
}

// changed is a text with something put in, taken out or put in its place.
func changed(r *rand.Rand, text string) string {
	at := r.IntN(len(text) + 1)
	to := min(len(text), at+r.IntN(3))
	switch r.IntN(4) {
	case 0:
		return text[:at] + text[to:]
	case 1:
		return text[:at] + crumbs[r.IntN(len(crumbs))] + text[at:]
	case 2:
		return text[:at] + crumbs[r.IntN(len(crumbs))] + text[to:]
	}
	parts := pieces(text)
	if len(parts) == 0 {
		return crumbs[r.IntN(len(crumbs))]
	}
	parts[r.IntN(len(parts))] = crumbs[r.IntN(len(crumbs))]
	return parts[0] + " " + strings.Join(parts[1:], "")
}

// anyNumber is a number, often at the edge of a form's.
func anyNumber(r *rand.Rand, pc uint64) string {
	n := int64(r.Uint64() >> r.IntN(64))
	switch r.IntN(4) {
	case 0:
		n = int64(1)<<r.IntN(21) + r.Int64N(5) - 2
	case 1:
		n = -(int64(1) << r.IntN(21)) + r.Int64N(5) - 2
	case 2:
		n = int64(pc) + (r.Int64N(1<<12) - 1<<11)
	}
	all := writings(n)
	return all[r.IntN(len(all))]
}

// filled is a row's text with words of the right kinds, but any of these.
func filled(r *rand.Rand, d drawn, pc uint64) string {
	text := d.name + " " + strings.ReplaceAll(d.operands, "!zero", "")
	text = strings.ReplaceAll(text, "!sp", "")
	for _, field := range []string{"rd", "rs1", "rs2"} {
		text = replaceBehindName(text, d.name, field, registers[r.IntN(32)])
	}
	for _, field := range []string{"imm", "hex", "five", "target"} {
		text = replaceBehindName(text, d.name, field, anyNumber(r, pc))
	}
	text = replaceBehindName(text, d.name, "csr", []string{"mstatus", "0x300", "4095", "4096", "-1", "time"}[r.IntN(6)])
	for _, field := range []string{"ahead", "behind"} {
		text = replaceBehindName(text, d.name, field, []string{"0", "rw", "wr", "iorw", "rr", "x"}[r.IntN(6)])
	}
	return text
}

// replaceBehindName puts a word in a field's place.
func replaceBehindName(text, name, field, word string) string {
	return name + strings.Replace(strings.TrimPrefix(text, name), field, word, 1)
}

// TestP7_4Any: texts that are printed, changed once to four times, are read as the model reads them.
func TestP7_4Any(t *testing.T) {
	r := random(30)
	told := map[api.Errno]int{}
	for range 100_000 {
		pc := anyPlace(r)
		text := speak.Print(anyOf(r, drawings[r.IntN(len(drawings))]), pc)
		for range 1 + r.IntN(4) {
			text = changed(r, text)
		}
		told[readsAsModel(t, text, pc)]++
	}
	if told[api.OK] < 3000 || told[api.ErrWord] < 3000 || told[api.ErrOperand] < 3000 || told[api.ErrReach] < 300 {
		t.Errorf("%v: the test has grown idle", told)
	}
}

// TestP7_4Filled: texts of the right form with any registers and numbers, some of them changed once.
func TestP7_4Filled(t *testing.T) {
	r := random(31)
	told := map[api.Errno]int{}
	for range 600 {
		for _, d := range drawings {
			pc := anyPlace(r)
			text := filled(r, d, pc)
			if r.IntN(8) == 0 {
				text = changed(r, text)
			}
			told[readsAsModel(t, text, pc)]++
		}
	}
	for _, e := range []api.Errno{api.OK, api.ErrWord, api.ErrOperand, api.ErrReach} {
		if told[e] < 3000 {
			t.Errorf("only %d texts were answered %d: the test has grown idle", told[e], e)
		}
	}
}
