package watch_test

import (
	"math"
	"strconv"
	"testing"

	"anvil/api"
	"anvil/csr"
)

// TestP18_1Rule1Ram: the RAMs must be of one length; which one does not count.
func TestP18_1Rule1Ram(t *testing.T) {
	l := looks(t)["nopM"]
	for b := range 20 {
		for a := range 20 {
			l.b.Bus.Ram, l.a.Bus.Ram = make([]byte, b), make([]byte, a)
			want := 1
			if a == b {
				want = 0
			}
			l.tells(t, "RAM of "+strconv.Itoa(b)+" and "+strconv.Itoa(a), want)
		}
	}
	l.b.Bus.Ram, l.a.Bus.Ram = nil, []byte{}
	l.tells(t, "no RAM", 0)
	l.b.Bus.Ram, l.a.Bus.Ram = []byte{}, nil
	l.tells(t, "no RAM", 0)
	l.b.Bus.Ram, l.a.Bus.Ram = make([]byte, 200000), make([]byte, 200000)
	l.tells(t, "much RAM", 0)
	l.a.Bus.Ram = l.a.Bus.Ram[:199999]
	l.tells(t, "much RAM", 1)
}

// TestP18_1Rule1Cpu: whatever makes the Cpu behind the step improper breaks the first rule; the one ahead of it may be anything.
func TestP18_1Rule1Cpu(t *testing.T) {
	all := looks(t)
	for _, name := range []string{"addiU", "sdM", "ecallU", "waitM", "offU", "mret"} {
		l, improper := all[name], 0
		for i := range leaves(&api.Cpu{}) {
			for bit := range 64 {
				one := l.copied()
				part := leaves(&one.a.Cpu)[i]
				part.turn(bit)
				if one.a.Cpu != csr.Proper(one.a.Cpu) {
					improper++
					one.tells(t, name+part.name, 1)
				} else if one.told() == 1 {
					t.Errorf("P18.1: %s%s: rule 1", name, part.name)
				}
				two := l.copied()
				two.b.Cpu = one.a.Cpu
				same := two.copied()
				same.b.Cpu = csr.Proper(two.b.Cpu)
				two.tells(t, name+part.name, same.told())
			}
		}
		if improper < 300 {
			t.Errorf("%d turns make a Cpu improper: too few to tell", improper)
		}
	}
}

// TestP18_1Rule1Before: a Cpu ahead of the step that is not proper counts as what it is made.
func TestP18_1Rule1Before(t *testing.T) {
	judged(t, []change{
		{"Pc", "addiU", func(l *look) { l.b.Cpu.Pc++ }, none()},
		{"X[0]", "addiU", func(l *look) { l.b.Cpu.X[0] = 9 }, none()},
		{"Mode 2", "addiU", func(l *look) { l.b.Cpu.Mode = 2 }, none()},
		{"Mode -1", "ecallU", func(l *look) { l.b.Cpu.Mode = -1 }, none()},
		{"Mode 7", "addiM", func(l *look) { l.b.Cpu.Mode = 7 }, only(2, 18)},
		{"Mstatus", "ecallM", func(l *look) { l.b.Cpu.Mstatus ^= uxl | 1<<40 | 1<<11 }, none()},
		{"Mtvec", "ecallM", func(l *look) { l.b.Cpu.Mtvec |= 2 }, none()},
		{"Mcountinhibit", "addiM", func(l *look) { l.b.Cpu.Mcountinhibit |= 2 }, none()},
		{"Pmp", "addiU", func(l *look) { l.b.Cpu.Pmp.Cfg[15] |= 0x60; l.b.Cpu.Pmp.Addr[15] |= 1 << 63 }, none()},
		{"W without R", "addiU", func(l *look) { l.b.Cpu.Pmp.Cfg[7] |= 2 }, none()},
		{"Res", "ecallU", func(l *look) { l.b.Cpu.Res = api.Res{Valid: true, Addr: 3, Size: 5} }, none()},
		{"Res", "offU", func(l *look) { l.b.Cpu.Res = api.Res{Addr: 3}; l.a.Cpu.Res = api.Res{} }, none()},
		{"all that is cleared", "offM", func(l *look) { l.b.Cpu.Mie, l.b.Cpu.Mcounteren = ^uint64(0x0), ^uint64(0) }, none()},
		{"waiting", "waitM", func(l *look) { l.b.Cpu.Mie |= 0x77 }, none()},
	})
}

// TestP18_1Rule2: Kind, Mode, Pc, Next and NextMode.
func TestP18_1Rule2(t *testing.T) {
	changes := []change{
		{"Pc", "addiU", func(l *look) { l.r.Pc += 2 }, only(2)},
		{"Pc 1 more", "addiU", func(l *look) { l.r.Pc++ }, only(2)},
		{"Pc as it was handed in", "addiU", func(l *look) { l.b.Cpu.Pc++; l.r.Pc++ }, only(2)},
		{"Mode", "addiU", func(l *look) { l.r.Mode = 3 }, only(2)},
		{"Mode", "addiM", func(l *look) { l.r.Mode = 0 }, only(2)},
		{"Mode 1", "addiU", func(l *look) { l.r.Mode = 1 }, only(2)},
		{"Mode 1 as it was handed in", "addiU", func(l *look) { l.r.Mode, l.b.Cpu.Mode = 1, 1 }, only(2)},
		{"Next", "addiM", func(l *look) { l.r.Next -= 2 }, only(2)},
		{"Next as it was handed in", "addiM", func(l *look) { l.a.Cpu.Pc++; l.r.Next++ }, only(1, 2)},
		{"NextMode", "addiM", func(l *look) { l.r.NextMode = 0 }, only(2)},
		{"NextMode", "ecallU", func(l *look) { l.r.NextMode = 0 }, only(2)},
		{"NextMode", "offU", func(l *look) { l.r.NextMode = 3 }, only(2)},
		{"Step", "addiM", func(l *look) { l.r.Step = -7 }, none()},
		{"another place", "addiM", func(l *look) { l.a.Cpu.Pc = 0x1234; l.follow() }, none()},
	}
	for _, kind := range []int{0, 6, 7, -1, 1 << 40, math.MaxInt, math.MinInt} {
		changes = append(changes, change{"Kind", "waitM", func(l *look) { l.r.Kind = kind }, only(2)})
		changes = append(changes, change{"Kind", "waitU", func(l *look) { l.r.Kind = kind }, only(2)})
	}
	judged(t, changes)
}

// TestP18_1Rule3Kind: the row is RowOff just if the power was off.
func TestP18_1Rule3Kind(t *testing.T) {
	stand := func(l *look) { l.a = copiedWhole(l.b); l.r.Kind = api.RowOff }
	changes := []change{
		{"running", "offU", func(l *look) { l.b.Bus.Off, l.a.Bus.Off = 0, 0 }, only(3)},
		{"a wait that is told as off", "waitM", stand, only(3)},
		{"turned off by the step", "sdM", func(l *look) { l.a.Bus.Off = 1 }, none()},
		{"turned on by the step", "waitM", func(l *look) { l.b.Bus.Off = 2 }, only(3)},
	}
	for _, off := range []int{1, 2, 3, -1, math.MaxInt, math.MinInt} {
		for _, of := range []string{"waitM", "addiM", "sdU", "ecallU", "interruptM", "mret"} {
			changes = append(changes, change{"off", of, func(l *look) { l.b.Bus.Off, l.a.Bus.Off = off, off }, only(3)})
		}
		changes = append(changes, change{"off", "offM", func(l *look) { l.b.Bus.Off, l.a.Bus.Off = off, off }, none()})
	}
	judged(t, changes)
}

// TestP18_1Rule3Same: with the power off each part of the whole is as it was.
func TestP18_1Rule3Same(t *testing.T) {
	all := looks(t)
	for _, name := range []string{"offU", "offM"} {
		for i := range leaves(&api.Whole{}) {
			for bit := range 64 {
				l := all[name].copied()
				part := leaves(&l.a)[i]
				part.turn(bit)
				if l.a.Cpu != csr.Proper(l.a.Cpu) {
					continue
				}
				l.follow()
				l.tells(t, name+part.name, 3)
			}
		}
	}
	judged(t, []change{
		{"no Input", "offU", func(l *look) { l.b.Bus.Input, l.a.Bus.Input = nil, []byte{} }, none()},
		{"no Output", "offU", func(l *look) { l.b.Bus.Output, l.a.Bus.Output = []byte{}, nil }, none()},
		{"more Input", "offU", func(l *look) { l.a.Bus.Input = append(l.a.Bus.Input, 0) }, only(3)},
		{"less Input", "offU", func(l *look) { l.a.Bus.Input = l.a.Bus.Input[1:] }, only(3)},
		{"less Output", "offU", func(l *look) { l.a.Bus.Output = l.a.Bus.Output[:1] }, only(3, 17)},
		{"the world", "offU", func(l *look) { l.w = api.World{Tick: true, Ext: true, Soft: true, Input: []byte("x")} }, none()},
		{"Mcycle", "offU", func(l *look) { l.a.Cpu.Mcycle++ }, only(3)},
		{"Minstret", "offU", func(l *look) { l.a.Cpu.Minstret++ }, only(3, 13)},
		{"Mtime", "offU", func(l *look) { l.a.Bus.Mtime++ }, only(3)},
		{"Ext", "offU", func(l *look) { l.a.Bus.Ext = false }, only(3)},
	})
}

// TestP18_1Rule4: the registers, and what a row that did not retire may not tell.
func TestP18_1Rule4(t *testing.T) {
	changes := []change{
		{"another register", "addiU", func(l *look) { l.a.Cpu.X[6]++ }, only(4)},
		{"the first one", "addiU", func(l *look) { l.a.Cpu.X[1]++ }, only(4)},
		{"the last one", "addiM", func(l *look) { l.a.Cpu.X[31]++ }, only(4)},
		{"another Val", "addiM", func(l *look) { l.r.Val++ }, only(4)},
		{"another value", "addiM", func(l *look) { l.a.Cpu.X[5]++ }, only(4)},
		{"another Rd", "addiM", func(l *look) { l.r.Rd = 6 }, only(4)},
		{"the same again", "nopM", func(l *look) { l.r.Rd, l.r.Val = 9, l.b.Cpu.X[9] }, none()},
		{"Rd 31", "nopM", func(l *look) { l.r.Rd, l.r.Val, l.a.Cpu.X[31] = 31, 5, 5 }, none()},
		{"Rd 0 with a Val", "nopM", func(l *look) { l.r.Val = 5 }, none()},
		{"Rd 0 and a change", "nopM", func(l *look) { l.a.Cpu.X[31]++ }, only(4)},
		{"Val 0", "addiM", func(l *look) { l.r.Val, l.a.Cpu.X[5] = 0, 0 }, none()},
	}
	for _, rd := range []int{-1, 32, 33, 64, math.MaxInt, math.MinInt, 1 << 32} {
		changes = append(changes, change{"Rd", "nopM", func(l *look) { l.r.Rd = rd }, only(4)})
		changes = append(changes, change{"Rd", "addiU", func(l *look) { l.r.Rd = rd }, only(4)})
	}
	for _, of := range []string{"ecallU", "illegalM", "interruptU", "waitM", "waitU", "offM"} {
		for name, do := range map[string]func(r *api.Row){
			"Rd": func(r *api.Row) { r.Rd = 1 }, "Val": func(r *api.Row) { r.Val = 1 << 63 }, "Mem R": func(r *api.Row) { r.Mem = 1 }, "Mem 4": func(r *api.Row) { r.Mem = 4 },
			"Addr": func(r *api.Row) { r.Addr = 1 << 40 }, "Size": func(r *api.Row) { r.Size = -1 }, "Data": func(r *api.Row) { r.Data = 1 },
		} {
			changes = append(changes, change{name, of, func(l *look) { do(&l.r) }, only(4)})
		}
	}
	for _, of := range []string{"ecallU", "illegalM", "interruptU", "waitU", "waitM"} {
		changes = append(changes, change{"a register", of, func(l *look) { l.a.Cpu.X[9] = 0 }, brokenToo(of, 4)})
	}
	judged(t, changes)
}

// brokenToo is rules that are broken, and the eleventh in a wait, whose Cpu stays.
func brokenToo(of string, rules ...int) []int {
	if of[:4] == "wait" {
		rules = append(rules, 11)
	}
	return rules
}
