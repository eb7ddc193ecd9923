package hart_test

import (
	"testing"

	"anvil/api"
	"anvil/decode"
	"anvil/hart"
)

// asModel does a step on a bus of this state and holds the Cpu, the row and the bus behind it against the model.
func asModel(t *testing.T, c api.Cpu, s api.Bus, w api.World) (api.Cpu, api.Row, api.Bus) {
	t.Helper()
	b := of(t, s)
	d, r := hart.Step(c, b, w)
	cpu, want, state := modelStep(t, c, s, w)
	if r != want {
		t.Fatalf("%+v with %+v: the row is\n%+v, want\n%+v", c, w, r, want)
	}
	if d != cpu {
		t.Fatalf("%+v with %+v, row %+v: the Cpu is\n%+v, want\n%+v", c, w, r, d, cpu)
	}
	if !sameState(b.State(), state) {
		t.Fatalf("%+v with %+v, row %+v: the bus is\n%+v, want\n%+v", c, w, r, b.State(), state)
	}
	return d, r, state
}

// seen counts rows by their mode: each kind, cause and operation that retired.
type seen struct {
	kinds   [2][6]int
	causes  map[uint64]int
	retired [2][api.Ops]int
}

func (s *seen) add(r api.Row) {
	mode := r.Mode / 3
	s.kinds[mode][r.Kind]++
	if r.Kind == api.RowRetire {
		s.retired[mode][decode.Decode(r.Raw).Op]++
	} else if r.Cause != 0 {
		s.causes[r.Cause]++
	}
}

// enough holds that what was seen has all that there is, in both modes.
func (s *seen) enough(t *testing.T) {
	t.Helper()
	for mode := range 2 {
		for kind := api.RowRetire; kind <= api.RowOff; kind++ {
			if s.kinds[mode][kind] < 100 {
				t.Errorf("kind %d was there %d times in mode %d: too few to tell", kind, s.kinds[mode][kind], 3*mode)
			}
		}
		for op := 1; op < api.Ops; op++ {
			inM := op == api.OpMret || op == api.OpCsrrw || op == api.OpCsrrwi
			if never := op == api.OpEcall || op == api.OpEbreak || inM && mode == 0; never {
				continue
			}
			if s.retired[mode][op] == 0 {
				t.Errorf("operation %d never retired in mode %d", op, 3*mode)
			}
		}
	}
	for _, cause := range []uint64{1, 2, 3, 4, 5, 6, 7, 8, 11, interrupt + 3, interrupt + 7, interrupt + 11} {
		if s.causes[cause] < 50 {
			t.Errorf("cause %#x was there %d times: too few to tell", cause, s.causes[cause])
		}
	}
}

// TestH1Any: a step of any Cpu, those that cannot be among them, any bus and any world, against DOC.md's section "One step". (H2 to H5)
func TestH1Any(t *testing.T) {
	r := random(1)
	all := seen{causes: map[uint64]int{}}
	for range 150000 {
		c, s := anyWhole(r)
		_, told, _ := asModel(t, c, s, anyWorld(r))
		all.add(told)
	}
	all.enough(t)
}

// TestH1Runs: steps one behind the other on one bus, each of the Cpu that the one before answered, with instructions put at Pc and without.
func TestH1Runs(t *testing.T) {
	r := random(2)
	for range 400 {
		c, s := anyWhole(r)
		b := of(t, s)
		for range 60 {
			if r.IntN(3) > 0 {
				s = put(s, c.Pc, anyCode(r))
				b = of(t, s)
			}
			w := anyWorld(r)
			cpu, want, state := modelStep(t, c, s, w)
			d, told := hart.Step(c, b, w)
			if d != cpu || told != want || !sameState(b.State(), state) {
				t.Fatalf("%+v with %+v: the row is\n%+v, want\n%+v; the Cpu is\n%+v, want\n%+v", c, w, told, want, d, cpu)
			}
			c, s = d, state
		}
	}
}
