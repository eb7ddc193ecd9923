package hart_test

import (
	"slices"
	"testing"

	"anvil/api"
	"anvil/decode"
	"anvil/hart"
)

// TestH6Again: the same Cpu, bus and world give the same again, whatever was stepped in between; and it is one row each time.
func TestH6Again(t *testing.T) {
	r := random(3)
	type once struct {
		cpu   api.Cpu
		state api.Bus
		world api.World
		next  api.Cpu
		row   api.Row
		then  api.Bus
	}
	var all []once
	for range 5000 {
		c, s := anyWhole(r)
		one := once{cpu: c, state: s, world: anyWorld(r)}
		b := of(t, s)
		one.next, one.row = hart.Step(c, b, one.world)
		one.then = b.State()
		if one.row.Kind < api.RowRetire || one.row.Kind > api.RowOff || one.row.Step != 0 {
			t.Fatalf("the row is %+v", one.row)
		}
		all = append(all, one)
	}
	for _, one := range slices.Backward(all) {
		b := of(t, one.state)
		next, row := hart.Step(one.cpu, b, one.world)
		if next != one.next || row != one.row || !sameState(b.State(), one.then) {
			t.Fatalf("%+v gives once\n%+v\n%+v, once\n%+v\n%+v", one.cpu, one.row, one.next, row, next)
		}
	}
}

// TestH6Input: the world's Input is not changed, its spare room neither, and not kept: what is written there later is not seen on the bus.
func TestH6Input(t *testing.T) {
	for _, n := range []int{0, 1, 3, 64, 65, 100} {
		whole := make([]byte, n+8)
		for i := range whole {
			whole[i] = byte(i + 1)
		}
		before := slices.Clone(whole)
		b := program(t, "lbu x4, 0(x1)")
		was := b.State().Input
		c := with(machine(), console)
		c, r := hart.Step(c, b, api.World{Input: whole[:n]})
		if r.Kind != api.RowRetire || c.X[4] != uint64(was[0]) {
			t.Errorf("%d bytes: the row is %+v", n, r)
		}
		if !slices.Equal(whole, before) {
			t.Errorf("%d bytes: the Input has become %v", n, whole)
		}
		want := append(was, before[:min(n, 64-len(was))]...)[1:]
		for i := range whole {
			whole[i] = 0xee
		}
		if got := b.State().Input; !slices.Equal(got, want) {
			t.Errorf("%d bytes: the queue is %v, want %v", n, got, want)
		}
		hart.Step(at(c, ram), b, api.World{Input: []byte{1, 2, 3}})
		if whole[0] != 0xee || whole[n] != 0xee {
			t.Errorf("%d bytes: a later step writes into them: %v", n, whole)
		}
	}
}

// TestH6Nothing: nil and an empty Input are the same.
func TestH6Nothing(t *testing.T) {
	for _, input := range [][]byte{nil, {}, make([]byte, 0, 9)} {
		s := saying(t, quiet(little), "c.nop")
		b := of(t, s)
		hart.Step(machine(), b, api.World{Input: input})
		sameBus(t, "no input", s, b.State())
	}
}

// TestH7Precise: an exception changes Pc, Mode, Mstatus, Mepc, Mcause, Mtval, Waiting, Res and Mcycle alone; Waiting is false, Res none, Mode M; and of the bus what the world brought. (P6)
func TestH7Precise(t *testing.T) {
	r := random(4)
	exceptions := 0
	for exceptions < 30000 {
		c, s := anyWhole(r)
		w := anyWorld(r)
		b := of(t, s)
		d, told := hart.Step(c, b, w)
		if told.Kind != api.RowException {
			continue
		}
		exceptions++
		if d.Waiting || d.Res != (api.Res{}) || d.Mode != api.M {
			t.Fatalf("%+v: the Cpu is %+v", told, d)
		}
		was := modelProper(c)
		if cycles := 1 - was.Mcountinhibit&1; d.Mcycle != was.Mcycle+cycles {
			t.Fatalf("%+v: Mcycle was %d, is %d", told, was.Mcycle, d.Mcycle)
		}
		d.Pc, d.Mode, d.Mstatus, d.Mepc, d.Mcause, d.Mtval = was.Pc, was.Mode, was.Mstatus, was.Mepc, was.Mcause, was.Mtval
		d.Waiting, d.Res, d.Mcycle = was.Waiting, was.Res, was.Mcycle
		if d != was {
			t.Fatalf("%+v: the Cpu was\n%+v, is but for the trap\n%+v", told, was, d)
		}
		if !sameState(modelBegin(s, w), b.State()) {
			t.Fatalf("%+v: the bus was with the world\n%+v, is\n%+v", told, modelBegin(s, w), b.State())
		}
	}
}

// TestH8Any: behind a RowOff the Cpu (proper) and the bus are as they were.
func TestH8Any(t *testing.T) {
	r := random(5)
	for range 5000 {
		c, s := anyWhole(r)
		s.Off, s.Code = api.Passed, 0
		if r.IntN(2) == 0 {
			s.Off, s.Code = api.Failed, r.IntN(65536)
		}
		b := of(t, s)
		d, told := hart.Step(c, b, anyWorld(r))
		if was := modelProper(c); d != was || told != row(was, api.RowOff) || !sameState(s, b.State()) {
			t.Fatalf("%+v: the row is %+v, the Cpu\n%+v, the bus\n%+v", c, told, d, b.State())
		}
	}
}

// TestH9Any: a hart that waits has a RowWait just while mip and Mie have no bit in common, and nothing but Mcycle and what the world brings changes then.
func TestH9Any(t *testing.T) {
	r := random(6)
	slept, woke := 0, 0
	for range 20000 {
		c, s := anyWhole(r)
		c.Waiting, s.Off, s.Code = true, 0, 0
		w := anyWorld(r)
		b := of(t, s)
		d, told := hart.Step(c, b, w)
		was, then := modelProper(c), modelBegin(s, w)
		if wakes := modelMip(then)&was.Mie != 0; wakes == (told.Kind == api.RowWait) {
			t.Fatalf("mip %#x, Mie %#x: the row is %+v", modelMip(then), was.Mie, told)
		}
		if told.Kind != api.RowWait {
			woke++
			continue
		}
		slept++
		was.Mcycle += 1 - was.Mcountinhibit&1
		if d != was || !sameState(then, b.State()) {
			t.Fatalf("the Cpu is\n%+v, want\n%+v", d, was)
		}
	}
	if slept < 1000 || woke < 1000 {
		t.Errorf("waited %d times, woke %d times: too few to tell", slept, woke)
	}
}

// writesCounters tells whether a row's instruction wrote a counter or Mcountinhibit.
func writesCounters(r api.Row) bool {
	in := decode.Decode(r.Raw)
	return r.Kind == api.RowRetire && (writes(in, 0xb00) || writes(in, 0xb02) || writes(in, 0x320))
}

// TestH10Counted: behind n steps Minstret is what it was and the number of RowRetire more, Mcycle and the number of all but RowOff. (P11)
func TestH10Counted(t *testing.T) {
	r := random(7)
	var kinds [6]int
	for range 600 {
		c, s := anyWhole(r)
		c.Mcountinhibit = 0
		cycles, retired := c.Mcycle, c.Minstret
		for range 80 {
			s = put(s, c.Pc&^1, anyCode(r))
			b := of(t, s)
			d, told := hart.Step(c, b, anyWorld(r))
			if writesCounters(told) {
				break
			}
			kinds[told.Kind]++
			if told.Kind == api.RowRetire {
				retired++
			}
			if told.Kind != api.RowOff {
				cycles++
			}
			if d.Mcycle != cycles || d.Minstret != retired {
				t.Fatalf("%+v: Mcycle is %#x, Minstret %#x, want %#x, %#x", told, d.Mcycle, d.Minstret, cycles, retired)
			}
			c, s = d, b.State()
		}
	}
	for kind := api.RowRetire; kind <= api.RowOff; kind++ {
		if kinds[kind] < 100 {
			t.Errorf("kind %d was there %d times: too few to tell", kind, kinds[kind])
		}
	}
}
