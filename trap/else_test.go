package trap_test

import (
	"strings"
	"testing"

	"anvil/api"
)

// eachField sets one field after the other, with each bit alone and with all, and holds that a call leaves it, unless it is named among those that it turns.
func eachField(t *testing.T, turned string, call func(c api.Cpu) api.Cpu) {
	t.Helper()
	for _, f := range fields() {
		if strings.Contains(turned, " "+f.name+" ") {
			continue
		}
		for n := range 65 {
			v := uint64(ones)
			if n < 64 {
				v = 1 << n
			}
			for _, mode := range []int{api.U, api.M} {
				c := hart(mode, mie)
				*f.of(&c) = v
				c = modelProper(c)
				d := call(c)
				if *f.of(&d) != *f.of(&c) {
					t.Errorf("%s was %#x, is %#x", f.name, *f.of(&c), *f.of(&d))
				}
			}
		}
	}
	eachEntry(t, call)
}

// eachEntry: no byte of the entries' settings changes, locked or not.
func eachEntry(t *testing.T, call func(c api.Cpu) api.Cpu) {
	t.Helper()
	for i := range 16 {
		for b := range 256 {
			c := hart(api.M, 0)
			c.Pmp.Cfg[i] = uint8(b)
			c = modelProper(c)
			if d := call(c); d.Pmp != c.Pmp {
				t.Errorf("entry %d was %#x: behind it %+v", i, c.Pmp.Cfg[i], d.Pmp)
			}
		}
	}
}
