package board_test

import (
	"bytes"
	"math"
	"testing"

	"anvil/api"
)

// fresh is the whole of a board whose deck says nothing but its RAM.
func fresh(size int) api.Whole {
	return api.Whole{Cpu: plain(size).Cpu, Bus: api.Bus{Ram: make([]byte, size), Mtimecmp: math.MaxUint64}}
}

// TestP15_1New: what nothing is said of is as a new bus has it.
func TestP15_1New(t *testing.T) {
	for _, size := range []int{8, 64, maxRam} {
		holds(t, "P15.1", made(t, plain(size)), fresh(size))
	}
}

// TestP15_1Over: the parts are put into RAM in their order, a later one over an earlier one, with zeros behind its Data.
func TestP15_1Over(t *testing.T) {
	seg := func(addr, size uint64, data string) api.Seg {
		return api.Seg{Addr: ram + addr, Size: size, Data: []byte(data)}
	}
	for _, one := range []struct {
		parts []api.Seg
		want  string
	}{
		{nil, "................"},
		{[]api.Seg{seg(0, 16, "abcdefghijklmnop")}, "abcdefghijklmnop"},
		{[]api.Seg{seg(2, 6, "abc")}, "..abc..........."},
		{[]api.Seg{seg(0, 16, "abcdefghijklmnop"), seg(4, 4, "ABCD")}, "abcdABCDijklmnop"},
		{[]api.Seg{seg(4, 4, "ABCD"), seg(0, 16, "abcdefghijklmnop")}, "abcdefghijklmnop"},
		{[]api.Seg{seg(0, 16, "abcdefghijklmnop"), seg(4, 4, "A")}, "abcdA...ijklmnop"},
		{[]api.Seg{seg(0, 16, "abcdefghijklmnop"), seg(4, 4, "")}, "abcd....ijklmnop"},
		{[]api.Seg{seg(0, 16, "abcdefghijklmnop"), seg(0, 16, "")}, "................"},
		{[]api.Seg{seg(0, 16, "abcdefghijklmnop"), seg(0, 0, ""), seg(5, 0, ""), seg(16, 0, "")}, "abcdefghijklmnop"},
		{[]api.Seg{seg(0, 8, "abcdefgh"), seg(4, 8, "ijklmnop"), seg(8, 8, "qr"), seg(7, 2, "XY")}, "abcdijkXYr......"},
		{[]api.Seg{seg(15, 1, "z"), seg(0, 1, "a")}, "a..............z"},
	} {
		d := plain(16)
		d.Parts = one.parts
		want := fresh(16)
		want.Bus.Ram = bytes.ReplaceAll([]byte(one.want), []byte("."), []byte{0})
		holds(t, "P15.1: "+one.want, made(t, d), want)
	}
}

// TestP15_1Mtime: mtime is the deck's, mtimecmp stays all ones, and the wrap is played.
func TestP15_1Mtime(t *testing.T) {
	for _, now := range []uint64{0, 1, 1 << 32, 1<<63 - 1, 1 << 63, ones - 1, ones} {
		d := plain(16)
		d.Mtime = now
		want := fresh(16)
		want.Bus.Mtime = now
		b := made(t, d)
		holds(t, "P15.1", b, want)
		for range 3 {
			b.Step(api.World{Tick: true})
			now++
			b.Step(api.World{})
			if at := b.Whole().Bus; at.Mtime != now || at.Mtimecmp != ones {
				t.Errorf("P15.1: mtime is %#x, want %#x; mtimecmp %#x", at.Mtime, now, at.Mtimecmp)
			}
		}
	}
}

// TestP15_1TimerAtTheWrap: at 2^64 - 1 the timer's interrupt is pending, behind the wrap it is not.
func TestP15_1TimerAtTheWrap(t *testing.T) {
	d := plain(16)
	d.Mtime, d.Cpu.Mie, d.Cpu.Waiting = ones-1, 1<<7, true
	d.Parts = []api.Seg{{Addr: ram, Size: 16, Data: bytesOf(0x344020f3, 0x10500073, 0x34402173, 0x10500073)}} // csrr ra, mip; wfi; csrr sp, mip; wfi
	d.Worlds = []api.World{{}, {Tick: true}, {}, {Tick: true}, {}, {Tick: true}}
	rows := follows(t, d)
	want := []int{api.RowWait, api.RowRetire, api.RowRetire, api.RowWait, api.RowWait, api.RowWait}
	for i, kind := range kinds(rows) {
		if kind != want[i] {
			t.Errorf("row %d is of kind %d, want %d", i+1, kind, want[i])
		}
	}
	if rows[1].Val != 1<<7 {
		t.Errorf("mip is %#x at the last moment", rows[1].Val)
	}
}

// improper is a Cpu in which nothing can be, and what it must become.
func improper() (api.Cpu, api.Cpu) {
	c := api.Cpu{
		Pc: ram + 5, Mode: 2, Waiting: true, Mstatus: ones, Mtvec: ones, Mie: ones, Mcounteren: ones, Mcountinhibit: ones, Menvcfg: ones,
		Mscratch: ones, Mepc: ones, Mcause: ones, Mtval: ones, Mcycle: ones, Minstret: ones, Res: api.Res{Valid: true, Addr: ram + 4, Size: 8},
	}
	p := api.Cpu{
		Pc: ram + 4, Mode: 0, Waiting: true, Mstatus: 0x200221888, Mtvec: ones - 2, Mie: 0x888, Mcounteren: 7, Mcountinhibit: 5, Menvcfg: 1,
		Mscratch: ones, Mepc: ones - 1, Mcause: ones, Mtval: ones, Mcycle: ones, Minstret: ones,
	}
	for i := range c.X {
		c.X[i] = ones - uint64(i)
		p.X[i] = c.X[i]
	}
	p.X[0] = 0
	for i := range 16 {
		c.Pmp.Cfg[i], c.Pmp.Addr[i] = 0x62+uint8(i%2), ones // W alone, and R with W
		p.Pmp.Cfg[i], p.Pmp.Addr[i] = uint8(3*(i%2)), 1<<54-1
	}
	return c, p
}

// TestP15_1Cpu: a Cpu that is not proper is made so.
func TestP15_1Cpu(t *testing.T) {
	c, want := improper()
	for _, mode := range []int{0, 1, 2, -1, 3, 4, math.MaxInt, math.MinInt} {
		d := plain(16)
		d.Cpu = c
		d.Cpu.Mode = mode
		is := fresh(16)
		is.Cpu = want
		if is.Cpu.Mode = 0; mode == 3 {
			is.Cpu.Mode = 3
		}
		holds(t, "P15.1", made(t, d), is)
		if tr := played(t, d); tr.Cpu != is.Cpu {
			t.Errorf("P15.5: the Cpu is\n%+v, want\n%+v", tr.Cpu, is.Cpu)
		}
	}
	r := random(3)
	for range 3000 {
		d := plain(16)
		d.Cpu = anyCpu(r)
		is := fresh(16)
		is.Cpu = proper(d.Cpu)
		holds(t, "P15.1", made(t, d), is)
	}
}

// TestP15_1NotPlayed: New does not play the deck's worlds.
func TestP15_1NotPlayed(t *testing.T) {
	d := plain(16)
	d.Worlds = []api.World{{Tick: true, Ext: true, Soft: true, Input: []byte("abc")}, {Input: make([]byte, 64)}}
	b := made(t, d)
	holds(t, "P15.1", b, fresh(16))
	if row := b.Step(api.World{}); row.Step != 1 {
		t.Errorf("P15.1: the first step has the number %d", row.Step)
	}
}
