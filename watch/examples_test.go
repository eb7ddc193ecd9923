package watch_test

import (
	"testing"

	"anvil/api"
	"anvil/watch"
)

func TestExample1(t *testing.T) {
	for _, off := range []int{api.Passed, api.Failed} {
		w := still(api.M)
		w.Bus.Off = off
		r := api.Row{Kind: api.RowOff, Pc: w.Cpu.Pc, Next: w.Cpu.Pc, Mode: w.Cpu.Mode, NextMode: w.Cpu.Mode}
		if rule := watch.Step(w, w, api.World{}, r); rule != 0 {
			t.Errorf("18.4: a whole whose power is off, and itself: rule %d", rule)
		}
		other := w
		other.Bus.Mtime++
		if rule := watch.Step(w, other, api.World{}, r); rule != 3 {
			t.Errorf("18.4: with another Mtime behind it: rule %d, want 3", rule)
		}
	}
}

func TestExample2(t *testing.T) {
	if rule, at := watch.Trace(api.Trace{}); rule != 0 || at != 0 {
		t.Errorf("18.4: a trace without rows: rule %d at %d", rule, at)
	}
}
