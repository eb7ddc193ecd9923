package bus_test

import (
	"math"
	"testing"

	"anvil/api"
	"anvil/bus"
)

func TestP3_1New(t *testing.T) {
	for size := range api.MaxRam + 20 {
		b, e := bus.New(size)
		if size < 8 || size > 65536 || size%8 != 0 {
			if b != nil || e != api.ErrArg {
				t.Errorf("New(%d) answers error %d, want nil and %d", size, e, api.ErrArg)
			}
			continue
		}
		if b == nil || e != api.OK {
			t.Fatalf("New(%d) answers error %d", size, e)
		}
		if size < 64 || size > 65500 {
			wantState(t, "a new bus", b, api.Bus{Ram: make([]byte, size), Mtimecmp: math.MaxUint64})
		}
	}
}

func TestP3_1WrongSizes(t *testing.T) {
	for _, size := range []int{math.MinInt, math.MinInt + 8, -65536, -16, -8, -7, -1, 65544, 1 << 31, 1<<32 + 8, 1 << 62, math.MaxInt, math.MaxInt - 7} {
		if b, e := bus.New(size); b != nil || e != api.ErrArg {
			t.Errorf("New(%d) answers error %d, want nil and %d", size, e, api.ErrArg)
		}
	}
}

// possible are states that can be, at the edges of every field.
func possible() []api.Bus {
	least := api.Bus{Ram: make([]byte, 8)}
	return []api.Bus{
		least, rich(), full(), off(full(), 0, 0), off(full(), 1, 0), off(full(), 2, 0), off(rich(), 2, 1), off(least, 2, 65535),
		{Ram: make([]byte, 65528), Msip: 1}, {Ram: make([]byte, 24), Ier: 15}, {Ram: make([]byte, 8), Mcr: 31},
		{Ram: make([]byte, 8), Input: make([]byte, 63), Output: make([]byte, 4095)},
		{Ram: make([]byte, 8), Input: []byte{}, Output: []byte{}, Overrun: true},
		{Ram: make([]byte, 8), Mtime: math.MaxUint64}, {Ram: make([]byte, 8), Mtimecmp: math.MaxUint64},
		{Ram: make([]byte, 8), Lcr: 255}, {Ram: make([]byte, 8), Scratch: 255}, {Ram: make([]byte, 8), Ext: true}, {Ram: make([]byte, 8), Soft: true},
	}
}

func TestP3_2From(t *testing.T) {
	for _, s := range possible() {
		b := of(t, s)
		wantState(t, "State of From", b, s)
		wantState(t, "State again", b, s)
		wantState(t, "a bus of another's state", of(t, b.State()), s)
	}
}

func TestP3_2Spoilt(t *testing.T) {
	spoilings := map[string]func(s *api.Bus){
		"no Ram":                func(s *api.Bus) { s.Ram = nil },
		"empty Ram":             func(s *api.Bus) { s.Ram = []byte{} },
		"7 bytes of Ram":        func(s *api.Bus) { s.Ram = make([]byte, 7) },
		"9 bytes of Ram":        func(s *api.Bus) { s.Ram = make([]byte, 9) },
		"12 bytes of Ram":       func(s *api.Bus) { s.Ram = make([]byte, 12) },
		"4 bytes of Ram":        func(s *api.Bus) { s.Ram = make([]byte, 4) },
		"65535 bytes of Ram":    func(s *api.Bus) { s.Ram = make([]byte, 65535) },
		"65537 bytes of Ram":    func(s *api.Bus) { s.Ram = make([]byte, 65537) },
		"65544 bytes of Ram":    func(s *api.Bus) { s.Ram = make([]byte, 65544) },
		"Msip 2":                func(s *api.Bus) { s.Msip = 2 },
		"Msip 3":                func(s *api.Bus) { s.Msip = 3 },
		"Msip all bits":         func(s *api.Bus) { s.Msip = math.MaxUint32 },
		"Ier 16":                func(s *api.Bus) { s.Ier = 16 },
		"Ier 255":               func(s *api.Bus) { s.Ier = 255 },
		"Mcr 32":                func(s *api.Bus) { s.Mcr = 32 },
		"Mcr 255":               func(s *api.Bus) { s.Mcr = 255 },
		"65 bytes of Input":     func(s *api.Bus) { s.Input = make([]byte, 65) },
		"4097 bytes of Output":  func(s *api.Bus) { s.Output = make([]byte, 4097) },
		"Off 3":                 func(s *api.Bus) { s.Off = 3 },
		"Off 3 and Code 1":      func(s *api.Bus) { s.Off, s.Code = 3, 1 },
		"Off -1":                func(s *api.Bus) { s.Off = -1 },
		"Off of 2^32":           func(s *api.Bus) { s.Off = 1 << 32 },
		"Off least":             func(s *api.Bus) { s.Off = math.MinInt },
		"Running and Code 1":    func(s *api.Bus) { s.Off, s.Code = 0, 1 },
		"Running and Code -1":   func(s *api.Bus) { s.Off, s.Code = 0, -1 },
		"Passed and Code 1":     func(s *api.Bus) { s.Off, s.Code = 1, 1 },
		"Passed and Code -1":    func(s *api.Bus) { s.Off, s.Code = 1, -1 },
		"Failed and Code 65536": func(s *api.Bus) { s.Off, s.Code = 2, 65536 },
		"Failed and Code -1":    func(s *api.Bus) { s.Off, s.Code = 2, -1 },
		"Failed and Code 2^32":  func(s *api.Bus) { s.Off, s.Code = 2, 1<<32 },
		"Failed and Code least": func(s *api.Bus) { s.Off, s.Code = 2, math.MinInt },
	}
	for _, good := range []api.Bus{{Ram: make([]byte, 8)}, rich(), off(full(), 0, 0)} {
		for what, spoil := range spoilings {
			s := copied(good)
			spoil(&s)
			if b, e := bus.From(s); b != nil || e != api.ErrState {
				t.Errorf("%s: From answers error %d, want nil and %d", what, e, api.ErrState)
			}
		}
	}
}
