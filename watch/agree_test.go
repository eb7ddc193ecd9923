package watch_test

import (
	"fmt"
	"reflect"
	"testing"

	"anvil/api"
	"anvil/board"
	"anvil/csr"
	"anvil/pmp"
	"anvil/watch"
)

// agrees: two wholes must agree, or not, whichever of them is named first.
func agrees(t *testing.T, name string, a, b api.Whole, want bool) {
	t.Helper()
	if got := watch.Agree(a, b); got != want {
		t.Errorf("P18.3: %s: Agree is %v, want %v", name, got, want)
	}
	if got := watch.Agree(b, a); got != want {
		t.Errorf("P18.3: %s, the other way round: Agree is %v, want %v", name, got, want)
	}
}

// TestP18_3Cpu: Cpus that differ in any bit do not agree, unless they are the same when they are made proper.
func TestP18_3Cpu(t *testing.T) {
	for _, mode := range []int{api.U, api.M} {
		same := 0
		for i := range leaves(&api.Cpu{}) {
			for bit := range 64 {
				a, b := still(mode), still(mode)
				part := leaves(&b.Cpu)[i]
				part.turn(bit)
				want := csr.Proper(a.Cpu) == csr.Proper(b.Cpu)
				agrees(t, part.name, a, b, want)
				same += int(truth(want))
			}
		}
		if same < 200 {
			t.Errorf("%d turns make no other Cpu: too few to tell", same)
		}
	}
}

// TestP18_3Devices: buses that differ in any part but RAM do not agree, whether they can be or not; nil and an empty list are the same.
func TestP18_3Devices(t *testing.T) {
	for i, part := range leaves(&api.Bus{}) {
		for bit := range 64 {
			if part.name == ".Ram" {
				continue
			}
			a, b := still(api.U), still(api.U)
			leaves(&b.Bus)[i].turn(bit)
			agrees(t, part.name, a, b, false)
		}
	}
	for i, part := range leaves(&api.Bus{}) {
		if part.v.Kind() != reflect.Slice {
			continue
		}
		a, b := still(api.U), still(api.U)
		list := leaves(&b.Bus)[i].v
		list.SetBytes(append(list.Bytes(), 0))
		agrees(t, part.name+" and one more", a, b, false)
		list.SetBytes(list.Bytes()[:1])
		agrees(t, part.name+" cut", a, b, false)
		list.SetBytes(nil)
		agrees(t, part.name+" gone", a, b, false)
		leaves(&a.Bus)[i].v.SetBytes([]byte{})
		agrees(t, part.name+" empty", a, b, true)
	}
	agrees(t, "the zero wholes", api.Whole{}, api.Whole{}, true)
}

// TestP18_3Ram: of RAM the bytes count to which U has R or X, whatever the mode is.
func TestP18_3Ram(t *testing.T) {
	for _, mode := range []int{api.U, api.M} {
		for i := range 72 {
			a := cut(mode).b
			b := copiedWhole(a)
			b.Bus.Ram[i] = 1
			hidden := i/4 == 0 // of the others each has R or X
			agrees(t, fmt.Sprintf("byte %d", i), a, b, hidden)
			b.Bus.Ram[0], b.Bus.Ram[3] = 8, 9
			agrees(t, fmt.Sprintf("byte %d and hidden ones", i), a, b, hidden)
		}
	}
	for cfg := range 256 {
		for _, mode := range []int{api.U, api.M} {
			a := still(mode)
			a.Cpu.Pmp = api.Pmp{}
			a.Cpu.Pmp.Cfg[4], a.Cpu.Pmp.Addr[4] = uint8(cfg), every
			a.Cpu.Pmp = csr.Proper(a.Cpu).Pmp
			b := copiedWhole(a)
			b.Bus.Ram[63]++
			granted := cfg&0x18 != 0 && cfg&5 != 0
			if kind := cfg >> 3 & 3; kind == 2 { // NA4 at the end of all addresses
				granted = false
			}
			agrees(t, fmt.Sprintf("Cfg %#x", cfg), a, b, !granted)
		}
	}
	a, b := still(api.U), still(api.U)
	a.Cpu.Pmp, b.Cpu.Pmp = api.Pmp{}, api.Pmp{}
	b.Bus.Ram[7]++
	agrees(t, "no entry", a, b, true)
	b.Bus.Ram = b.Bus.Ram[:63]
	agrees(t, "no entry, and RAM of another length", a, b, false)
}

// TestP18_3Any: any wholes, those that cannot be too, against the second watch.
func TestP18_3Any(t *testing.T) {
	r := random(4)
	told := map[bool]int{}
	for range 30000 {
		a := api.Whole{Cpu: anyCpu(r), Bus: anyBus(r, anyBytes(r, r.IntN(40)))}
		if r.IntN(2) == 0 {
			a.Cpu.Pmp.Cfg[8] = 0
		}
		b := copiedWhole(a)
		for range r.IntN(3) {
			one(r, leaves(&b)...).jolt(r)
		}
		for range r.IntN(3) {
			leaf{"", reflect.ValueOf(&b.Bus.Ram).Elem()}.joltList(r)
		}
		want := agree(a, b)
		if agrees(t, "any two", a, b, want); t.Failed() {
			t.Fatalf("the wholes are\n%+v\n%+v", a, b)
		}
		told[want]++
	}
	if told[true] < 3000 || told[false] < 3000 {
		t.Errorf("%v: too few to tell", told)
	}
}

// veiled is the same whole with every byte changed that is granted neither R nor X, and how many these are.
func veiled(w api.Whole) (api.Whole, int) {
	w = copiedWhole(w)
	n := 0
	for i := range w.Bus.Ram {
		at := ram + uint64(i)
		if !pmp.Granted(w.Cpu.Pmp, at, api.R) && !pmp.Granted(w.Cpu.Pmp, at, api.X) {
			w.Bus.Ram[i] ^= 0x5a
			n++
		}
	}
	return w, n
}

// boarded is the board of a whole that must be one.
func boarded(t *testing.T, w api.Whole) *board.Board {
	t.Helper()
	b, e := board.From(w)
	if e != api.OK {
		t.Fatalf("board.From answers error %d", e)
	}
	return b
}

// TestP18_4Two: two boards in U whose wholes agree have the same rows, and agree behind each step, up to and with the first trap; till then they stay in U.
func TestP18_4Two(t *testing.T) {
	r := random(5)
	hidden, rows, traps, off := 0, 0, 0, 0
	for range 1500 {
		d := anyDeck(t, r, 40)
		d.Cpu.Mode, d.Cpu.Waiting, d.Cpu.Mie = api.U, r.IntN(10) == 0, d.Cpu.Mie*r.Uint64N(2)
		first := made(t, d).Whole()
		second, n := veiled(first)
		agrees(t, "two boards", first, second, true)
		hidden += min(n, 1)
		one, two := boarded(t, first), boarded(t, second)
		for _, w := range d.Worlds {
			mine, its := one.Step(w), two.Step(w)
			a, b := one.Whole(), two.Whole()
			if mine != its || !watch.Agree(a, b) || !watch.Agree(b, a) {
				t.Fatalf("P18.4: behind\n%+v and\n%+v the wholes are\n%+v\n%+v", mine, its, a, b)
			}
			if rows++; mine.Kind == api.RowException || mine.Kind == api.RowInterrupt {
				traps++
				break
			}
			if a.Cpu.Mode != api.U || b.Cpu.Mode != api.U {
				t.Fatalf("P18.4: behind %+v the modes are %d and %d", mine, a.Cpu.Mode, b.Cpu.Mode)
			}
			off += mine.Kind / api.RowOff
		}
	}
	if hidden < 300 || rows < 3000 || traps < 500 || off < 20 {
		t.Errorf("%d with something hidden, %d rows, %d traps, %d off: too few to tell", hidden, rows, traps, off)
	}
}
