package board_test

import (
	"bytes"
	"math"
	"testing"

	"anvil/api"
	"anvil/board"
)

// rich is a whole with something in every field.
func rich() api.Whole {
	w := api.Whole{Bus: api.Bus{
		Ram: bytesOf(0x00100093, 0x10500073, 0x00008067, 0xdeadbeef), Msip: 1, Mtimecmp: 0x7edcba9876543210, Mtime: 0x8123456789abcdef,
		Ext: true, Soft: true, Ier: 9, Lcr: 0x83, Mcr: 0x15, Scratch: 0xc7, Overrun: true, Input: []byte("\xe9nput"), Output: []byte("out\x00"),
	}}
	c := &w.Cpu
	for i := range 31 {
		c.X[i+1] = uint64(i) << 40
	}
	c.Pc, c.Mode, c.Mstatus, c.Mtvec, c.Mie, c.Mcounteren, c.Mcountinhibit, c.Menvcfg = ram, api.M, uxl|0x1880, ram+9, 0x888, 7, 4, 1
	c.Mscratch, c.Mepc, c.Mcause, c.Mtval, c.Mcycle, c.Minstret = 1, 2, 3, 4, 5, 6
	c.Pmp.Cfg[15], c.Pmp.Addr[15], c.Res = 0x9f, 1<<54-1, api.Res{Valid: true, Addr: ram + 8, Size: 4}
	return w
}

// TestP15_2From: a board of a whole is that whole.
func TestP15_2From(t *testing.T) {
	holds(t, "P15.2", again(t, rich()), rich())
	for _, change := range []func(b *api.Bus){
		func(b *api.Bus) {},
		func(b *api.Bus) { b.Ram = make([]byte, 8) },
		func(b *api.Bus) { b.Ram = bytes.Repeat([]byte{7}, maxRam) },
		func(b *api.Bus) { b.Msip, b.Ier, b.Mcr, b.Lcr, b.Scratch = 1, 15, 31, 255, 255 },
		func(b *api.Bus) { b.Input, b.Output = make([]byte, 64), make([]byte, 4096) },
		func(b *api.Bus) { b.Input, b.Output = nil, nil },
		func(b *api.Bus) { b.Off = api.Passed },
		func(b *api.Bus) { b.Off = api.Failed },
		func(b *api.Bus) { b.Off, b.Code = api.Failed, 65535 },
	} {
		w := rich()
		change(&w.Bus)
		holds(t, "P15.2", again(t, w), w)
	}
}

// TestP15_2Not: of what is no state of a bus there is no board.
func TestP15_2Not(t *testing.T) {
	for i, change := range []func(b *api.Bus){
		func(b *api.Bus) { *b = api.Bus{} },
		func(b *api.Bus) { b.Ram = nil },
		func(b *api.Bus) { b.Ram = b.Ram[:12] },
		func(b *api.Bus) { b.Ram = make([]byte, maxRam+8) },
		func(b *api.Bus) { b.Msip = 2 },
		func(b *api.Bus) { b.Msip = math.MaxUint32 },
		func(b *api.Bus) { b.Ier = 16 },
		func(b *api.Bus) { b.Mcr = 32 },
		func(b *api.Bus) { b.Input = make([]byte, 65) },
		func(b *api.Bus) { b.Output = make([]byte, 4097) },
		func(b *api.Bus) { b.Off = 3 },
		func(b *api.Bus) { b.Off = -1 },
		func(b *api.Bus) { b.Code = 1 },
		func(b *api.Bus) { b.Off, b.Code = api.Passed, 1 },
		func(b *api.Bus) { b.Off, b.Code = api.Failed, 65536 },
		func(b *api.Bus) { b.Off, b.Code = api.Failed, -1 },
	} {
		w := rich()
		change(&w.Bus)
		if b, e := board.From(w); b != nil || e != api.ErrWhole {
			t.Errorf("P15.2: %d: From answers %v, error %d", i, b, e)
		}
	}
}

// TestP15_2Cpu: the Cpu of a whole is made proper.
func TestP15_2Cpu(t *testing.T) {
	w := rich()
	want := rich()
	w.Cpu, want.Cpu = improper()
	holds(t, "P15.2", again(t, w), want)
	r := random(4)
	for range 3000 {
		w.Cpu = anyCpu(r)
		want.Cpu = proper(w.Cpu)
		holds(t, "P15.2", again(t, w), want)
	}
}
