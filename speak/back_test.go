package speak_test

import (
	"strings"
	"testing"

	"anvil/api"
	"anvil/decode"
	"anvil/speak"
)

// back checks that what is printed of a raw is read as it.
func back(t *testing.T, raw uint32, pc uint64) {
	t.Helper()
	text := speak.Print(raw, pc)
	in, e := speak.Parse(text, pc)
	if raw%4 != 3 {
		raw %= 65536
	}
	if e != api.OK || in.Raw != raw || in != decode.Decode(raw) {
		t.Errorf("P7.6: Print(%#x, %#x) = %q, read back as %+v, %d", raw, pc, text, in, e)
	}
}

// TestP7_6Parcels: every parcel, there and back, at several places.
func TestP7_6Parcels(t *testing.T) {
	r := random(40)
	texts := map[string]uint32{}
	for p := range uint32(1 << 16) {
		if p%4 == 3 {
			continue
		}
		for _, pc := range []uint64{ram, anyPlace(r)} {
			back(t, p, pc)
		}
		back(t, p|r.Uint32()<<16, anyPlace(r))
		text := speak.Print(p, ram)
		if other, is := texts[text]; is {
			t.Errorf("P7.6: %#04x and %#04x have one text: %q", other, p, text)
		}
		texts[text] = p
	}
}

// TestP7_6Long: raws of every name, and any others, there and back.
func TestP7_6Long(t *testing.T) {
	r := random(41)
	for _, d := range drawings {
		if d.length() != 4 {
			continue
		}
		for _, pc := range places {
			back(t, anyOf(r, d), pc)
		}
		for range 200 {
			back(t, anyOf(r, d), anyPlace(r))
			back(t, anyOf(r, d)^1<<(2+r.IntN(30)), anyPlace(r))
		}
	}
	for range 30_000 {
		back(t, r.Uint32()|3, anyPlace(r))
	}
}

// TestP7_6Bits: each bit of a long instruction makes another text.
func TestP7_6Bits(t *testing.T) {
	r := random(42)
	for _, d := range drawings {
		if d.length() != 4 {
			continue
		}
		for range 10 {
			raw, pc := anyOf(r, d), anyPlace(r)
			texts := map[string]uint32{speak.Print(raw, pc): raw}
			for bit := 2; bit < 32; bit++ {
				other := raw ^ 1<<bit
				text := speak.Print(other, pc)
				if same, is := texts[text]; is {
					t.Errorf("P7.6: %#08x and %#08x have one text: %q", same, other, text)
				}
				texts[text] = other
			}
		}
	}
}

// TestP7_6Texts: what is read of a text with more room and other words is printed as that text with its own.
func TestP7_6Texts(t *testing.T) {
	r := random(43)
	other := 0
	for _, d := range drawings {
		for range 60 {
			pc := anyPlace(r)
			raw := anyOf(r, d)
			text := speak.Print(raw, pc)
			loose := loosened(r.IntN(1<<30), text, pc)
			if loose != text {
				other++
			}
			in, e := speak.Parse(loose, pc)
			if e != api.OK {
				t.Errorf("P7.6: Parse(%q, %#x) is refused by %d", loose, pc, e)
			}
			if got := speak.Print(in.Raw, pc); got != text {
				t.Errorf("P7.6: %q is read and printed %q, want %q", loose, got, text)
			}
		}
	}
	if other < 5000 {
		t.Errorf("only %d texts were changed: the test has grown idle", other)
	}
	for _, c := range [][2]string{{"c.nop 0", "c.nop"}, {"c.nop -0x0", "c.nop"}, {"c.nop 0x1", "c.nop 1"}, {"csrrw x10, 768, fp", "csrrw a0, mstatus, s0"}, {"csrrw a0, 0x0123, a0", "csrrw a0, 0x123, a0"}, {"fence wroi, wi", "fence iorw, iw"}, {"lui a0, 1048575", "lui a0, 0xfffff"}, {"slli a0, a0, 0x3F", "slli a0, a0, 63"}, {"jal x0, 2147483648", "jal zero, 0x80000000"}, {"c.lui t0, 1048575", "c.lui t0, 0xfffff"}} {
		in, e := speak.Parse(c[0], ram)
		if got := speak.Print(in.Raw, ram); got != c[1] || e != api.OK {
			t.Errorf("P7.6: %q is read (%d) and printed %q, want %q", c[0], e, got, c[1])
		}
	}
}

// loosened is a text with room, registers by their numbers, and numbers in another writing, as the bits of choice tell.
func loosened(choice int, text string, pc uint64) string {
	take := func() bool {
		is := choice&1 == 1
		choice >>= 1
		return is
	}
	parts := pieces(text)
	for i, part := range parts[1:] {
		if n, is := modelRegister(part); is && take() {
			parts[i+1] = "x" + itoa(n)
		}
		if n, is := modelNumber(part); is && !strings.HasPrefix(parts[0], "fence") && take() {
			for _, w := range writings(int64(n)) {
				if !strings.Contains(w, "-") || !strings.HasPrefix(parts[0], "csr") { // a CSR's number has no sign
					parts[i+1] = w
				}
				if take() {
					break
				}
			}
		}
	}
	loose := ""
	for i, part := range parts {
		if take() {
			loose += "\t"
		}
		loose += part
		if i == 0 || take() {
			loose += " "
		}
	}
	return loose
}

// TestP7_7Place: which texts hang on the place, and how.
func TestP7_7Place(t *testing.T) {
	r := random(44)
	hang := map[string]bool{"jal": true, "beq": true, "bne": true, "blt": true, "bge": true, "bltu": true, "bgeu": true, "c.j": true, "c.beqz": true, "c.bnez": true}
	for _, d := range drawings {
		for range 100 {
			raw, pc, more := anyOf(r, d), anyPlace(r), r.Uint64()>>r.IntN(64)
			here, there := speak.Print(raw, pc), speak.Print(raw, pc+more)
			if !hang[d.name] {
				if here != there {
					t.Errorf("P7.7: %#08x is %q at %#x, %q at %#x", raw, here, pc, there, pc+more)
				}
				continue
			}
			cut := strings.LastIndex(here, "0x")
			target, is := modelNumber(here[cut:])
			moved, isToo := modelNumber(there[strings.LastIndex(there, "0x"):])
			if !is || !isToo || moved-target != more || here[:cut] != there[:cut] {
				t.Errorf("P7.7: %#08x is %q at %#x, %q at %#x", raw, here, pc, there, pc+more)
			}
		}
	}
	for range 5000 {
		raw := r.Uint32()
		if d, is := rowOf(raw); (!is || !hang[d.name]) && speak.Print(raw, r.Uint64()) != speak.Print(raw, ram) {
			t.Errorf("P7.7: the text of %#08x hangs on its place", raw)
		}
	}
}
