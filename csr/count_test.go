package csr_test

import (
	"testing"

	"anvil/api"
	"anvil/csr"
)

// TestC5Count: every combination of the three bools and of Mcountinhibit's bits ahead of the step and behind it.
func TestC5Count(t *testing.T) {
	bools := []bool{false, true}
	for was := range uint64(8) {
		for now := range uint64(8) {
			for _, retired := range bools {
				for _, wroteCycle := range bools {
					for _, wroteCount := range bools {
						cycles, counts := uint64(0), uint64(0)
						if !wroteCycle && was != 1 && was != 3 && was != 5 && was != 7 {
							cycles = 1
						}
						if retired && !wroteCount && was < 4 {
							counts = 1
						}
						counted(t, was, now, retired, wroteCycle, wroteCount, cycles, counts)
					}
				}
			}
		}
	}
}

// counted holds a Count against what is to be added, at numbers where it wraps and where it does not.
func counted(t *testing.T, was, now uint64, retired, wroteCycle, wroteCount bool, cycles, counts uint64) {
	t.Helper()
	for _, mode := range []int{api.U, api.M} {
		for _, cycle := range []uint64{0, 7, 1<<32 - 1, 1<<63 - 1, ones} {
			for _, count := range []uint64{0, 8, ones} {
				c := api.Cpu{Mode: mode, Mcountinhibit: now, Mcycle: cycle, Minstret: count, Waiting: true}
				ahead := api.Cpu{Mode: api.M - mode, Mcountinhibit: was, Mcycle: 3, Minstret: 4}
				want := modelProper(c)
				want.Mcycle += cycles
				want.Minstret += counts
				same(t, "Count", csr.Count(c, ahead, retired, wroteCycle, wroteCount), want)
			}
		}
	}
}

func TestC5Wrap(t *testing.T) {
	c := api.Cpu{Mode: api.M, Mcycle: ones, Minstret: ones}
	same(t, "Count at the last numbers", csr.Count(c, c, true, false, false), api.Cpu{Mode: api.M, Mstatus: uxl})
	same(t, "Count of no instruction", csr.Count(c, c, false, false, false), api.Cpu{Mode: api.M, Mstatus: uxl, Minstret: ones})
}

// TestC5Rest: nothing but the two counters changes, of whatever Cpu; of was nothing but Mcountinhibit counts.
func TestC5Rest(t *testing.T) {
	r := random(12)
	for n := range 20_000 {
		c, was := anyCpu(r, n%6-1), anyCpu(r, n%5-1)
		want := modelProper(c)
		if was.Mcountinhibit&1 == 0 {
			want.Mcycle++
		}
		if was.Mcountinhibit&4 == 0 {
			want.Minstret++
		}
		same(t, "Count", csr.Count(c, was, true, false, false), want)
		same(t, "Count of one that wrote both", csr.Count(c, was, true, true, true), modelProper(c))
	}
}
