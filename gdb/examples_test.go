package gdb_test

import (
	"testing"

	"anvil/api"
	"anvil/gdb"
)

func TestExample1(t *testing.T) {
	s := made(t, little())
	fed(t, s, "$?#3f", "+$S05#b8")
	fed(t, s, "$?#3e", "-")
	fed(t, s, "-", "$S05#b8")
	fed(t, s, "$p20#d2", "+$0000008000000000#08")
}

func TestExample2(t *testing.T) {
	s := made(t, little())
	ask(t, s, "m80000000,4", "05050505")
	ask(t, s, "m80000010,1", "E02")
	ask(t, s, "m0,0", "")
	ask(t, s, "m80000000", "E01")
	ask(t, s, "m80000000,1f5", "E02")
}

// TestExample3And4: the fourth goes on where the third ends: a0 is 3 behind its first step.
func TestExample3And4(t *testing.T) {
	s := made(t, little())
	ask(t, s, "Z0,80000004,2", "OK")
	ask(t, s, "c", "S05")
	stands(t, s, 2, 0x80000004)
	ask(t, s, "pa", "0200000000000000")
	ask(t, s, "c", "S05")
	stands(t, s, 3, 0x80000004)
	ask(t, s, "z0,80000004,2", "OK")
	ask(t, s, "c", "S02")
	stands(t, s, 2003, 0x80000004)
	ask(t, s, "s80000000", "S05")
	ask(t, s, "pa", "0300000000000000")
	ask(t, s, "Pa=0500000000000000", "OK")
	ask(t, s, "pa", "0500000000000000")
	ask(t, s, "P0=0500000000000000", "OK")
	ask(t, s, "p0", "0000000000000000")
	ask(t, s, "p341", "0000000002000000")
	ask(t, s, "p21", "E02")
	ask(t, s, "pz", "E01")
	ask(t, s, "p342", "0511100000000080")
}

func TestExample5(t *testing.T) {
	packs(t, "a}b", "$a}]b#9d")
	unpacks(t, "$a}]b#9D", "a}b")
	for b, want := range map[string]api.Errno{"$a}#de": api.ErrArg, "$a#60": api.ErrSum, "$a#61x": api.ErrArg} {
		if p, e := gdb.Unpack([]byte(b)); p != nil || e != want {
			t.Errorf("17.6: Unpack(%q) is %q and error %d, want %d", b, p, e, want)
		}
	}
}

func TestExample6(t *testing.T) {
	s := made(t, little())
	fed(t, s, packet("QStartNoAckMode"), "+$OK#9a")
	fed(t, s, "$?#3f", "$S05#b8")
	fed(t, s, "$?#00", "")
	fed(t, s, "-", "")
	fed(t, s, packet("k"), "")
	fed(t, s, "$?#3f", "")
	fed(t, s, packet("s")+packet("D"), "")
	stands(t, s, 0, 0x80000000)
}
