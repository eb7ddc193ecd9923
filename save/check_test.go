package save_test

import (
	"bytes"
	"math"
	"testing"

	"anvil/api"
	"anvil/save"
)

// possible is wholes that can be, at the edges of every field of the bus.
func possible() []api.Whole {
	all := []api.Whole{least(), rich(), greatest()}
	for _, change := range []func(b *api.Bus){
		func(b *api.Bus) { b.Ram = make([]byte, 8) },
		func(b *api.Bus) { b.Ram = make([]byte, 16) },
		func(b *api.Bus) { b.Ram = make([]byte, maxRam-8) },
		func(b *api.Bus) { b.Ram = make([]byte, maxRam) },
		func(b *api.Bus) { b.Ram = bytes.Repeat([]byte{7}, maxRam) },
		func(b *api.Bus) { b.Msip = 0 },
		func(b *api.Bus) { b.Msip = 1 },
		func(b *api.Bus) { b.Mtimecmp, b.Mtime = ones, ones },
		func(b *api.Bus) { b.Mtimecmp, b.Mtime = 0, 0 },
		func(b *api.Bus) { b.Ext = false },
		func(b *api.Bus) { b.Soft = false },
		func(b *api.Bus) { b.Overrun = false },
		func(b *api.Bus) { b.Ier = 15 },
		func(b *api.Bus) { b.Mcr = 31 },
		func(b *api.Bus) { b.Lcr, b.Scratch = 255, 255 },
		func(b *api.Bus) { b.Input = make([]byte, maxInput) },
		func(b *api.Bus) { b.Input = nil },
		func(b *api.Bus) { b.Input = []byte{} },
		func(b *api.Bus) { b.Output = make([]byte, maxOutput) },
		func(b *api.Bus) { b.Output = nil },
		func(b *api.Bus) { b.Output = []byte{} },
		func(b *api.Bus) { b.Off, b.Code = api.Running, 0 },
		func(b *api.Bus) { b.Off, b.Code = api.Passed, 0 },
		func(b *api.Bus) { b.Off, b.Code = api.Failed, 0 },
		func(b *api.Bus) { b.Off, b.Code = api.Failed, 1 },
		func(b *api.Bus) { b.Off, b.Code = api.Failed, 65535 },
	} {
		for _, w := range []api.Whole{least(), rich()} {
			change(&w.Bus)
			all = append(all, w)
		}
	}
	return all
}

// spoilings is what makes a bus into none that can be, whatever it was.
func spoilings() map[string]func(b *api.Bus) {
	return map[string]func(b *api.Bus){
		"no Ram":                func(b *api.Bus) { b.Ram = nil },
		"empty Ram":             func(b *api.Bus) { b.Ram = []byte{} },
		"1 byte of Ram":         func(b *api.Bus) { b.Ram = make([]byte, 1) },
		"4 bytes of Ram":        func(b *api.Bus) { b.Ram = make([]byte, 4) },
		"7 bytes of Ram":        func(b *api.Bus) { b.Ram = make([]byte, 7) },
		"9 bytes of Ram":        func(b *api.Bus) { b.Ram = make([]byte, 9) },
		"12 bytes of Ram":       func(b *api.Bus) { b.Ram = make([]byte, 12) },
		"65535 bytes of Ram":    func(b *api.Bus) { b.Ram = make([]byte, maxRam-1) },
		"65537 bytes of Ram":    func(b *api.Bus) { b.Ram = make([]byte, maxRam+1) },
		"65544 bytes of Ram":    func(b *api.Bus) { b.Ram = make([]byte, maxRam+8) },
		"131072 bytes of Ram":   func(b *api.Bus) { b.Ram = make([]byte, 2*maxRam) },
		"Msip 2":                func(b *api.Bus) { b.Msip = 2 },
		"Msip 3":                func(b *api.Bus) { b.Msip = 3 },
		"Msip 256":              func(b *api.Bus) { b.Msip = 256 },
		"Msip all bits":         func(b *api.Bus) { b.Msip = math.MaxUint32 },
		"Ier 16":                func(b *api.Bus) { b.Ier = 16 },
		"Ier 255":               func(b *api.Bus) { b.Ier = 255 },
		"Mcr 32":                func(b *api.Bus) { b.Mcr = 32 },
		"Mcr 255":               func(b *api.Bus) { b.Mcr = 255 },
		"65 bytes of Input":     func(b *api.Bus) { b.Input = make([]byte, maxInput+1) },
		"256 bytes of Input":    func(b *api.Bus) { b.Input = make([]byte, 256) },
		"257 bytes of Input":    func(b *api.Bus) { b.Input = make([]byte, 257) },
		"4097 bytes of Output":  func(b *api.Bus) { b.Output = make([]byte, maxOutput+1) },
		"65536 bytes of Output": func(b *api.Bus) { b.Output = make([]byte, 65536) },
		"Off 3":                 func(b *api.Bus) { b.Off, b.Code = 3, 0 },
		"Off -1":                func(b *api.Bus) { b.Off, b.Code = -1, 0 },
		"Off 256":               func(b *api.Bus) { b.Off, b.Code = 256, 0 },
		"Off of 2^32":           func(b *api.Bus) { b.Off, b.Code = 1<<32, 0 },
		"Off least":             func(b *api.Bus) { b.Off, b.Code = math.MinInt, 0 },
		"Running and Code 1":    func(b *api.Bus) { b.Off, b.Code = api.Running, 1 },
		"Running and Code -1":   func(b *api.Bus) { b.Off, b.Code = api.Running, -1 },
		"Running, Code of 2^32": func(b *api.Bus) { b.Off, b.Code = api.Running, 1<<32 },
		"Passed and Code 1":     func(b *api.Bus) { b.Off, b.Code = api.Passed, 1 },
		"Passed and Code -1":    func(b *api.Bus) { b.Off, b.Code = api.Passed, -1 },
		"Failed and Code 65536": func(b *api.Bus) { b.Off, b.Code = api.Failed, 65536 },
		"Failed and Code -1":    func(b *api.Bus) { b.Off, b.Code = api.Failed, -1 },
		"Failed, Code of 2^32":  func(b *api.Bus) { b.Off, b.Code = api.Failed, 1<<32 },
		"Failed and Code least": func(b *api.Bus) { b.Off, b.Code = api.Failed, math.MinInt },
	}
}

func TestP16_1Can(t *testing.T) {
	for _, w := range possible() {
		if e := save.Check(w); e != api.OK {
			t.Errorf("P16.1: Check answers error %d of\n%+v", e, w)
		}
	}
}

// TestP16_1Cannot: such a whole has no snapshot either, be its Cpu proper or not.
func TestP16_1Cannot(t *testing.T) {
	wild := rich()
	wild.Cpu = anyCpu(random(1))
	for what, spoil := range spoilings() {
		for _, good := range []api.Whole{least(), rich(), greatest(), wild} {
			w := copied(good)
			spoil(&w.Bus)
			if e := save.Check(w); e != api.ErrWhole {
				t.Errorf("P16.1: %s: Check answers error %d, want %d", what, e, api.ErrWhole)
			}
			if b, e := save.Save(w); b != nil || e != api.ErrWhole {
				t.Errorf("P16.2: %s: Save answers %d bytes and error %d, want none and %d", what, len(b), e, api.ErrWhole)
			}
		}
	}
	if e := save.Check(api.Whole{}); e != api.ErrWhole {
		t.Errorf("P16.1: Check answers error %d of the zero whole", e)
	}
}

// TestP16_1Cpu: a whole can be, whatever its Cpu is.
func TestP16_1Cpu(t *testing.T) {
	r := random(2)
	for range 2000 {
		w := rich()
		w.Cpu = anyCpu(r)
		if e := save.Check(w); e != api.OK {
			t.Fatalf("P16.1: Check answers error %d of\n%+v", e, w)
		}
	}
}
