package gdb_test

import (
	"bytes"
	"fmt"
	"strings"
	"testing"

	"anvil/api"
	"anvil/gdb"
)

// packs: Pack of a payload must answer this packet.
func packs(t *testing.T, payload, want string) {
	t.Helper()
	if b, e := gdb.Pack([]byte(payload)); string(b) != want || e != api.OK {
		t.Errorf("P17.1: Pack(%.40q) is %.80q and error %d, want %.80q", payload, b, e, want)
	}
}

// unpacks: Unpack of these bytes must answer this payload.
func unpacks(t *testing.T, b, want string) {
	t.Helper()
	if p, e := gdb.Unpack([]byte(b)); string(p) != want || e != api.OK {
		t.Errorf("P17.2: Unpack(%.40q) is %.80q and error %d, want %.80q", b, p, e, want)
	}
}

// unpacksNot: Unpack of these bytes must answer this error, and nothing else.
func unpacksNot(t *testing.T, what, b string, want api.Errno) {
	t.Helper()
	if p, e := gdb.Unpack([]byte(b)); p != nil || e != want {
		t.Errorf("P17.2: %s: Unpack(%.40q) is %.80q and error %d, want nothing and %d", what, b, p, e, want)
	}
}

// wrong is a packet with other digits.
func wrong(p string) string {
	other := byte('0')
	if p[len(p)-1] == '0' {
		other = '1'
	}
	return p[:len(p)-1] + string(other)
}

func TestP17_1Escaped(t *testing.T) {
	packs(t, "", "$#00")
	packs(t, "#", "$}\x03#80")
	packs(t, "$", "$}\x04#81")
	packs(t, "}", "$}]#da")
	packs(t, "*", "$}\x0a#87")
	packs(t, "a#$}*#z", framed("a}\x03}\x04}]}\x0a}\x03z"))
	for c := range 256 {
		one := string([]byte{byte(c)})
		if !strings.Contains("#$}*", one) {
			packs(t, one, fmt.Sprintf("$%s#%02x", one, c))
			packs(t, "x"+one+one, fmt.Sprintf("$x%s%s#%02x", one, one, (120+2*c)%256))
		}
	}
}

func TestP17_1Long(t *testing.T) {
	for _, n := range []int{1, 255, 256, 257, maxPacket - 1, maxPacket} {
		packs(t, strings.Repeat("a", n), fmt.Sprintf("$%s#%02x", strings.Repeat("a", n), n*97%256))
		packs(t, strings.Repeat("$", n), fmt.Sprintf("$%s#%02x", strings.Repeat("}\x04", n), n*129%256))
	}
	for _, n := range []int{maxPacket + 1, maxPacket + 2, 2 * maxPacket, 1 << 20} {
		for _, of := range []string{"a", "}", "\x00"} {
			if b, e := gdb.Pack([]byte(strings.Repeat(of, n))); b != nil || e != api.ErrLong {
				t.Errorf("P17.1: Pack of %d bytes answers %.40q and error %d", n, b, e)
			}
		}
	}
}

// TestP17_2Digits: both digits may be small or capital, and nothing else may stand there.
func TestP17_2Digits(t *testing.T) {
	for c := range 256 {
		if c == '#' || c == '$' || c == '}' {
			continue
		}
		one := string([]byte{byte(c)})
		for _, form := range []string{"$%s#%02x", "$%s#%02X"} {
			unpacks(t, fmt.Sprintf(form, one, c), one)
		}
	}
	unpacks(t, "$n=#aB", "n=")
	unpacks(t, "$n=#Ab", "n=")
	for c := range 256 {
		one := string([]byte{byte(c)})
		if strings.Contains("0123456789abcdefABCDEF", one) {
			continue
		}
		unpacksNot(t, "a first digit", "$#"+one+"0", api.ErrArg)
		unpacksNot(t, "a second digit", "$#0"+one, api.ErrArg)
		unpacksNot(t, "both digits", "$#"+one+one, api.ErrArg)
	}
}

// TestP17_2Form: what is not just one packet.
func TestP17_2Form(t *testing.T) {
	for _, b := range []string{
		"", "$", "#", "$#", "$#0", "#00", "a", "a#61", "$a", "$a#", "$a#6", "$a61", "$a61#", "$#000", "$a#611", "$a#61x", "x$a#61", "+$a#61", "$a#61+",
		"$$#00", "$$#24", "$a$#85", "$a$a#e6", "$a#61$a#61", "$##00", "$##23", "$a##84", "$#a#84", "$#61", "$a#61#", "$a\x0061", "%a#61", "$a$61", "$}#}#a0", "$}$#a1",
	} {
		if b == "$#61" { // a packet, with the wrong sum
			unpacksNot(t, "a sum", b, api.ErrSum)
			continue
		}
		unpacksNot(t, "form", b, api.ErrArg)
	}
}

// TestP17_2Order: each fault alone, and two at once.
func TestP17_2Order(t *testing.T) {
	long, half := strings.Repeat("a", maxPacket+1), "a}"
	unpacksNot(t, "a sum", wrong(framed("a")), api.ErrSum)
	unpacksNot(t, "a sum of none", "$#01", api.ErrSum)
	unpacksNot(t, "half a pair", framed(half), api.ErrArg)
	unpacksNot(t, "half a pair alone", framed("}"), api.ErrArg)
	unpacksNot(t, "three", framed("}}}"), api.ErrArg)
	unpacksNot(t, "too long", framed(long), api.ErrLong)
	unpacksNot(t, "form and sum", wrong(framed("a"))+"x", api.ErrArg)
	unpacksNot(t, "form and half a pair", framed(half)+"x", api.ErrArg)
	unpacksNot(t, "form and too long", "x"+framed(long), api.ErrArg)
	unpacksNot(t, "sum and half a pair", wrong(framed(half)), api.ErrSum)
	unpacksNot(t, "sum and too long", wrong(framed(long)), api.ErrSum)
	unpacksNot(t, "half a pair and too long", framed(long+"}"), api.ErrArg)
	unpacksNot(t, "sum, half a pair and too long", wrong(framed(long+"}")), api.ErrSum)
	unpacksNot(t, "half a pair behind just enough", framed(long[1:]+"}"), api.ErrArg)
	for told := range 256 {
		for _, form := range []string{"$a}#%02x", "$ab#%02X"} {
			if told != 0xde && told != 0xc3 {
				unpacksNot(t, "a sum", fmt.Sprintf(form, told), api.ErrSum)
			}
		}
	}
}

// TestP17_2Pairs: whatever stands behind a } is turned, and what is not escaped stands for itself.
func TestP17_2Pairs(t *testing.T) {
	unpacks(t, framed("}}"), "]")
	unpacks(t, framed("}}}}"), "]]")
	unpacks(t, framed("}]}]"), "}}")
	unpacks(t, framed("}A"), "a")
	unpacks(t, framed("*"), "*")
	unpacks(t, framed("a*b}\x0a"), "a*b*")
	for c := range 256 {
		if c == '#' || c == '$' {
			continue
		}
		unpacks(t, framed("x}"+string([]byte{byte(c)})+"y"), "x"+string([]byte{byte(c) ^ 32})+"y")
	}
	all := strings.Repeat("}A", maxPacket)
	unpacks(t, framed(all), strings.Repeat("a", maxPacket))
	unpacksNot(t, "too long in pairs", framed(all+"a"), api.ErrLong)
	unpacksNot(t, "too long in pairs", framed(all+"}A"), api.ErrLong)
	unpacksNot(t, "half a pair behind pairs", framed(all+"}"), api.ErrArg)
	unpacksNot(t, "far too long", framed(strings.Repeat("a", 1<<20)), api.ErrLong)
}

// TestP17_2Back: Unpack(Pack(p)) is p; and what Unpack takes is what the chapter's words make of it.
func TestP17_2Back(t *testing.T) {
	r := random(1)
	for range 3000 {
		p := anyBytes(r, one(r, 0, 1, 2, r.IntN(40), r.IntN(maxPacket+1), maxPacket))
		if r.IntN(2) == 0 {
			p = anyOf(r, len(p), "#$}*]a\x03\x04\x0a")
		}
		b, e := gdb.Pack(p)
		if string(b) != packet(string(p)) || e != api.OK {
			t.Fatalf("P17.1: Pack(%q) is %q and error %d", p, b, e)
		}
		if back, e := gdb.Unpack(b); !bytes.Equal(back, p) || e != api.OK {
			t.Fatalf("P17.2: Unpack(Pack(%q)) is %q and error %d", p, back, e)
		}
	}
	taken := 0
	for range 20000 {
		body := string(anyOf(r, r.IntN(6), "}]ab*"))
		if r.IntN(50) == 0 {
			body += strings.Repeat(one(r, "a", "}a"), maxPacket-r.IntN(8))
		}
		p, can := meant(body)
		switch {
		case !can:
			unpacksNot(t, "half a pair", framed(body), api.ErrArg)
		case len(p) > maxPacket:
			unpacksNot(t, "too long", framed(body), api.ErrLong)
		default:
			unpacks(t, framed(body), p)
			taken++
		}
	}
	if taken < 10000 {
		t.Errorf("%d packets: too few to tell", taken)
	}
}

// TestP17_2Any: any bytes of those that make packets: Unpack answers what the chapter's words say.
func TestP17_2Any(t *testing.T) {
	r := random(2)
	told := map[api.Errno]int{}
	for range 50000 {
		b := string(anyOf(r, r.IntN(8), "$#}a017e"))
		switch r.IntN(4) {
		case 0:
			b = "$" + b
		case 1:
			b = framed(b)
		case 2:
			b = wrong(framed(b))
		}
		p := parts(`\$([^$#]*)#(DD)`, b)
		want := api.OK
		switch {
		case p == nil:
			want = api.ErrArg
		case framed(p[1]) != b:
			want = api.ErrSum
		}
		payload := ""
		if want == api.OK {
			is := false
			if payload, is = meant(p[1]); !is {
				want = api.ErrArg
			}
		}
		if got, e := gdb.Unpack([]byte(b)); string(got) != payload || e != want {
			t.Fatalf("P17.2: Unpack(%q) is %q and error %d, want %q and %d", b, got, e, payload, want)
		}
		told[want]++
	}
	if told[api.OK] < 100 || told[api.ErrSum] < 100 || told[api.ErrArg] < 100 {
		t.Errorf("%v: too few to tell", told)
	}
}
