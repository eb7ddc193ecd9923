package watch_test

import (
	"bytes"
	"reflect"
	"slices"
	"sync"
	"testing"

	"anvil/api"
	"anvil/watch"
)

// roomy is the same bytes with spare room behind them.
func roomy(b []byte) []byte { return append(bytes.Clone(b), "spare room"...)[:len(b)] }

// full is bytes with their spare room.
func full(b []byte) []byte { return bytes.Clone(b[:cap(b)]) }

// lent is a whole whose lists all have spare room.
func lent(w api.Whole) api.Whole {
	w.Bus.Ram, w.Bus.Input, w.Bus.Output = roomy(w.Bus.Ram), roomy(w.Bus.Input), roomy(w.Bus.Output)
	return w
}

// lists is all bytes of a whole, their spare room too.
func lists(w api.Whole) [][]byte {
	return [][]byte{full(w.Bus.Ram), full(w.Bus.Input), full(w.Bus.Output)}
}

// TestRule3Step: Step and Agree leave the wholes, the world and the row as they were, their spare room too, whichever rule is told.
func TestRule3Step(t *testing.T) {
	for name, l := range looks(t) {
		for rule, do := range breaking() {
			one := l.copied()
			do(&one)
			one.b, one.a, one.w.Input = lent(one.b), lent(one.a), roomy(one.w.Input)
			b, a, in := lists(one.b), lists(one.a), full(one.w.Input)
			was := one.copied()
			one.told()
			watch.Agree(one.b, one.a)
			watch.Agree(one.a, one.b)
			watch.Agree(one.a, one.a)
			if !reflect.DeepEqual(lists(one.b), b) || !reflect.DeepEqual(lists(one.a), a) || !bytes.Equal(full(one.w.Input), in) || !reflect.DeepEqual(one.copied(), was) {
				t.Errorf("rule 3: %s with rule %d broken: what was handed in has changed", name, rule)
			}
		}
	}
}

// TestRule3Same: wholes that share their memory are taken as they are.
func TestRule3Same(t *testing.T) {
	w := still(api.M)
	w.Bus.Off = api.Passed
	r := api.Row{Kind: api.RowOff, Pc: w.Cpu.Pc, Next: w.Cpu.Pc, Mode: w.Cpu.Mode, NextMode: w.Cpu.Mode}
	w.Bus.Input, w.Bus.Output = w.Bus.Ram[8:24], w.Bus.Ram[16:32]
	kept := bytes.Clone(w.Bus.Ram)
	if rule := watch.Step(w, w, api.World{Input: w.Bus.Ram}, r); rule != 0 || !watch.Agree(w, w) {
		t.Errorf("a whole and itself: rule %d", rule)
	}
	if !bytes.Equal(w.Bus.Ram, kept) {
		t.Error("rule 3: what was handed in has changed")
	}
}

// TestRule3Trace: Trace leaves the rows as they were, their spare room too.
func TestRule3Trace(t *testing.T) {
	for i := range 16 {
		for _, do := range []func(r *api.Row){
			func(*api.Row) {}, func(r *api.Row) { r.Step++ }, func(r *api.Row) { r.Pc += 2 }, func(r *api.Row) { r.Val++ }, func(r *api.Row) { r.Kind = 5 },
		} {
			tr := run()
			do(&tr.Rows[i])
			tr.Rows = append(tr.Rows, api.Row{Step: 99})[:16]
			tr.Output = roomy([]byte("sent"))
			was, sent := slices.Clone(tr.Rows[:17]), full(tr.Output)
			watch.Trace(tr)
			if !slices.Equal(tr.Rows[:17], was) || !bytes.Equal(full(tr.Output), sent) {
				t.Error("rule 3: what was handed in has changed")
			}
		}
	}
}

// TestRule4Again: the same is answered again, whatever was asked between, and side by side.
func TestRule4Again(t *testing.T) {
	all := looks(t)
	breaks := breaking()
	ask := func() []int {
		var told []int
		for _, name := range []string{"addiU", "sdM", "ecallU", "waitM", "offU"} {
			for rule := 1; rule <= 20; rule++ {
				l := all[name].copied()
				breaks[rule](&l)
				told = append(told, l.told(), int(truth(watch.Agree(l.b, l.a))))
				tr := run()
				tr.Rows[rule%16].Val++
				number, at := watch.Trace(tr)
				told = append(told, number, at)
			}
		}
		return told
	}
	want := ask()
	var answers [4][]int
	var wait sync.WaitGroup
	for i := range answers {
		wait.Go(func() { answers[i] = ask() })
	}
	wait.Wait()
	for _, got := range answers {
		if !slices.Equal(got, want) {
			t.Errorf("rule 4: %v was answered, and now %v", want, got)
		}
	}
}
