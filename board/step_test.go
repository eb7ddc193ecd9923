package board_test

import (
	"bytes"
	"testing"

	"anvil/api"
	"anvil/board"
	"anvil/bus"
	"anvil/hart"
)

// counts holds that the next steps of a board have the numbers from n on.
func counts(t *testing.T, name string, b *board.Board, n, times int) {
	t.Helper()
	for i := range times {
		if row := b.Step(api.World{Tick: true}); row.Step != n+i {
			t.Errorf("P15.3: %s: the step has the number %d, want %d", name, row.Step, n+i)
		}
	}
}

// TestP15_3Numbers: steps count from 1 on behind New and behind From, whatever their rows are; what is no step is not counted.
func TestP15_3Numbers(t *testing.T) {
	b := made(t, little())
	counts(t, "New", b, 1, 3)
	b.Whole()
	b.Poke(ram, []byte{0x13, 0, 0, 0})
	b.Poke(0, []byte{1})
	b.Set(api.Cpu{Pc: ram, Mode: api.M})
	counts(t, "what is no step", b, 4, 3)
	other := again(t, b.Whole())
	counts(t, "From", other, 1, 5)
	counts(t, "the first one", b, 7, 2)
	d := plain(16)
	d.Cpu.Waiting = true
	counts(t, "waiting", made(t, d), 1, 5)
}

// TestP15_3Off: steps with the power off are counted too, behind New and behind From.
func TestP15_3Off(t *testing.T) {
	d := sourced(t, 64, "lui a0, 0x100", "lui a1, 5", "addi a1, a1, 0x555", "sw a1, 0(a0)")
	b := made(t, d)
	counts(t, "off", b, 1, 9)
	w := b.Whole()
	if w.Bus.Off != api.Passed || w.Cpu.Mcycle != 4 || w.Bus.Mtime != 4 {
		t.Fatalf("P15.3: the whole is %+v", w)
	}
	other := again(t, w)
	counts(t, "off from the beginning on", other, 1, 4)
	holds(t, "P15.9: off", other, w)
}

// TestP15_3Unbound: a board's steps are not bounded as a deck's are; the console is full at 4096 bytes, and dumb from then on.
func TestP15_3Unbound(t *testing.T) {
	d := sourced(t, 64, "lui a0, 0x10000", "1: sb a1, 0(a0)", "addi a1, a1, 1", "lbu a2, 5(a0)", "j 1b")
	b := made(t, d)
	b.Step(api.World{})
	for i := range 4 * 4100 {
		row := b.Step(api.World{})
		if row.Step != i+2 || row.Kind != api.RowRetire {
			t.Fatalf("P15.3: the row is %+v", row)
		}
		if sent := i/4 + 1; i%4 == 2 && row.Val != 96 && sent < 4096 || i%4 == 2 && row.Val != 0 && sent >= 4096 {
			t.Fatalf("behind %d bytes the line status is %d", sent, row.Val)
		}
	}
	output := b.Whole().Bus.Output
	want := bytes.Repeat([]byte{0}, 4096)
	for i := range want {
		want[i] = byte(i)
	}
	if !bytes.Equal(output, want) {
		t.Errorf("%d bytes were sent", len(output))
	}
}

// TestP15_3Hart: a step is the hart's, with a number.
func TestP15_3Hart(t *testing.T) {
	r := random(5)
	for range 600 {
		d := anyDeck(r, 30)
		b := made(t, d)
		w := b.Whole()
		own, _ := bus.From(w.Bus)
		c := w.Cpu
		for i, one := range d.Worlds {
			var want api.Row
			c, want = hart.Step(c, own, one)
			want.Step = i + 1
			if row := b.Step(one); row != want {
				t.Fatalf("P15.3: the row is\n%+v, want\n%+v", row, want)
			}
		}
		holds(t, "P15.3", b, api.Whole{Cpu: c, Bus: own.State()})
	}
}

// TestP15_3Greedy: a world at a board may bring more than a deck's world may: what has no room is lost.
func TestP15_3Greedy(t *testing.T) {
	b := made(t, plain(16))
	input := bytes.Repeat([]byte("ab"), 50)
	b.Step(api.World{Input: input})
	w := b.Whole()
	if !bytes.Equal(w.Bus.Input, input[:64]) || !w.Bus.Overrun {
		t.Errorf("the input is %q, lost %v", w.Bus.Input, w.Bus.Overrun)
	}
}
