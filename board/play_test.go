package board_test

import (
	"slices"
	"testing"

	"anvil/api"
)

// ending is a deck that turns the power off by its step n with this word, and has so many worlds, with all that a world can bring.
func ending(t *testing.T, n int, value uint32, count int) api.Deck {
	t.Helper()
	d := plain(64)
	d.Cpu.X[10], d.Cpu.X[11] = finisher, uint64(value)
	for i := range n - 1 {
		d.Parts = append(d.Parts, api.Seg{Addr: ram + 4*uint64(i), Size: 4, Data: bytesOf(0x00160613)}) // addi a2, a2, 1
	}
	d.Parts = append(d.Parts, api.Seg{Addr: ram + 4*uint64(n-1), Size: 4, Data: bytesOf(0x00b52023)}) // sw a1, 0(a0)
	d.Worlds = slices.Repeat([]api.World{{Tick: true, Ext: true, Soft: true, Input: []byte("x")}}, count)
	return d
}

// TestP15_5Empty: a deck without worlds is played by doing nothing.
func TestP15_5Empty(t *testing.T) {
	for _, d := range []api.Deck{plain(8), little(), {Ram: 8}} {
		d.Worlds = nil
		want := api.Trace{Cpu: proper(d.Cpu)}
		for range 2 {
			if tr := played(t, d); !sameTrace(tr, want) {
				t.Errorf("P15.5: the trace is %+v", tr)
			}
			d.Worlds = []api.World{}
		}
	}
}

// TestP15_5Off: a play in which the power is turned off tells how, and what stood then.
func TestP15_5Off(t *testing.T) {
	for _, one := range []struct {
		value     uint32
		off, code int
	}{
		{0x5555, api.Passed, 0}, {0xabcd5555, api.Passed, 0}, {0x3333, api.Failed, 0}, {0x13333, api.Failed, 1}, {0xffff3333, api.Failed, 65535},
		{0x7777, api.Running, 0}, {0x55550000, api.Running, 0},
	} {
		for n := 1; n <= 8; n++ {
			d := ending(t, n, one.value, 8)
			tr := played(t, d)
			if tr.Off != one.off || tr.Code != one.code || len(tr.Rows) != 8 || tr.Cpu.X[12] != uint64(n-1) {
				t.Errorf("P15.5: %#x by step %d: the trace is %+v", one.value, n, tr)
			}
			if one.off != api.Running && (tr.Cpu.Mcycle != uint64(n) || tr.Cpu.Minstret != uint64(n) || tr.Cpu.Pc != ram+4*uint64(n)) {
				t.Errorf("P15.5: %#x by step %d: the Cpu is %+v", one.value, n, tr.Cpu)
			}
			follows(t, d)
		}
	}
}

// TestP15_5Output: a play tells all that was sent to the console, with the power off and on.
func TestP15_5Output(t *testing.T) {
	lines := []string{
		"lui a0, 0x10000", "la a1, text", "1: lbu a2, 0(a1)", "beqz a2, 1f", "sb a2, 0(a0)", "addi a1, a1, 1", "j 1b",
		"1: lui a3, 0x100", "lui a4, 5", "addi a4, a4, 0x555", "sw a4, 0(a3)", ".data", `text: .asciz "one\n\x01\xff\"two"`,
	}
	d := sourced(t, 128, lines...)
	d.Worlds = worlds(70)
	if tr := played(t, d); string(tr.Output) != "one\n\x01\xff\"two" || tr.Off != api.Passed {
		t.Errorf("P15.5: the output is %q, off %d", tr.Output, tr.Off)
	}
	d.Worlds = worlds(12)
	if tr := played(t, d); string(tr.Output) != "on" || tr.Off != api.Running {
		t.Errorf("P15.5: the output is %q, off %d", tr.Output, tr.Off)
	}
}

// TestP15_5Board: Play is New and a step for each world.
func TestP15_5Board(t *testing.T) {
	r := random(8)
	for range 500 {
		d := anyDeck(r, r.IntN(60))
		b := made(t, d)
		rows := steps(b, d.Worlds)
		if tr, want := played(t, d), ended(rows, b.Whole()); !sameTrace(tr, want) {
			t.Fatalf("P15.5: the trace is\n%+v, want\n%+v", tr, want)
		}
	}
}

// TestP15_9Rows: there is a row for each world, numbered from 1 on, and behind the one that turned the power off all are off, and nothing changes.
func TestP15_9Rows(t *testing.T) {
	r := random(9)
	offs := 0
	for i := range 3000 {
		d := anyDeck(r, r.IntN(60))
		if i%3 == 0 {
			d = ending(t, 1+r.IntN(16), uint32(one[uint64](r, 0x5555, 0x123333)), r.IntN(40))
		}
		tr := played(t, d)
		if len(tr.Rows) != len(d.Worlds) {
			t.Fatalf("P15.9: %d rows of %d worlds", len(tr.Rows), len(d.Worlds))
		}
		b := made(t, d)
		end := b.Whole()
		for k, row := range tr.Rows {
			is, was := end.Bus.Off != api.Running, end
			if b.Step(d.Worlds[k]); is {
				offs++
				holds(t, "P15.9", b, was)
			}
			end = b.Whole()
			if row.Step != k+1 || (row.Kind == api.RowOff) != is {
				t.Fatalf("P15.9: row %d is %+v", k, row)
			}
			if is && row != (api.Row{Step: k + 1, Kind: api.RowOff, Mode: was.Cpu.Mode, Pc: was.Cpu.Pc, Next: was.Cpu.Pc, NextMode: was.Cpu.Mode}) {
				t.Fatalf("P15.9: row %d is %+v", k, row)
			}
		}
	}
	if offs < 3000 {
		t.Errorf("%d rows with the power off: too few to tell", offs)
	}
}

// TestP15_9Most: as many steps as a deck can have are played.
func TestP15_9Most(t *testing.T) {
	d := sourced(t, 16, "1: addi a0, a0, 1", "j 1b")
	d.Worlds = worlds(maxSteps)
	tr := played(t, d)
	if len(tr.Rows) != maxSteps || tr.Rows[maxSteps-1].Step != maxSteps || tr.Cpu.X[10] != maxSteps/2 || tr.Cpu.Minstret != maxSteps {
		t.Errorf("P15.9: %d rows, the Cpu is %+v", len(tr.Rows), tr.Cpu)
	}
}
