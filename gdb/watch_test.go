package gdb_test

import (
	"fmt"
	"slices"
	"strings"
	"testing"

	"anvil/api"
)

// access is an instruction that reaches memory by s0, and what its row tells.
type access struct {
	text string
	mem  int
	size int
}

// accesses is every instruction that a row tells a Mem of. An SC stores by the reservation that its deck begins with.
func accesses() []access {
	all := []access{
		{"lb a0, 0(s0)", api.R, 1}, {"lbu a0, 0(s0)", api.R, 1}, {"lh a0, 0(s0)", api.R, 2}, {"lhu a0, 0(s0)", api.R, 2}, {"lw a0, 0(s0)", api.R, 4},
		{"lwu a0, 0(s0)", api.R, 4}, {"ld a0, 0(s0)", api.R, 8}, {"sb a1, 0(s0)", api.W, 1}, {"sh a1, 0(s0)", api.W, 2}, {"sw a1, 0(s0)", api.W, 4}, {"sd a1, 0(s0)", api.W, 8},
		{"c.lw a0, 0(s0)", api.R, 4}, {"c.sd a1, 0(s0)", api.W, 8}, {"lr.w a0, (s0)", api.R, 4}, {"lr.d a0, (s0)", api.R, 8},
		{"sc.w a0, a1, (s0)", 0, 4}, {"sc.d a0, a1, (s0)", api.W, 8}, {"amoswap.w a0, a1, (s0)", api.R | api.W, 4}, {"amomaxu.d a0, a1, (s0)", api.R | api.W, 8},
	}
	return all
}

// TestP17_6Watched: every kind of access against every type, place and length of a watch: met just if the kind is watched and a byte is in both.
func TestP17_6Watched(t *testing.T) {
	const at = ram + 32
	told, not := 0, 0
	for _, a := range accesses() {
		d := sourced(t, 64, a.text, "nop")
		d.Cpu.X[8], d.Cpu.X[11] = at, ones
		d.Cpu.Res = api.Res{Valid: true, Addr: at, Size: 8}
		length := uint64(4)
		if strings.HasPrefix(a.text, "c.") {
			length = 2
		}
		for kind, mem := range map[int]int{2: api.W, 3: api.R, 4: api.R | api.W} {
			for from := uint64(at - 9); from <= at+9; from++ {
				for k := uint64(1); k <= 8; k++ {
					want := "S05"
					if a.mem&mem != 0 && from < at+uint64(a.size) && at < from+k {
						want = fmt.Sprintf("T05%s:%x;", []string{"watch", "rwatch", "awatch"}[kind-2], from)
						told++
					} else {
						not++
					}
					s := made(t, d)
					talk := packet(fmt.Sprintf("Z%d,%x,%x", kind, from, k)) + packet(fmt.Sprintf("Z0,%x,0", ram+length)) + packet("c")
					fed(t, s, talk, "+$OK#9a+$OK#9a+"+packet(want))
					stands(t, s, 1, ram+length)
				}
			}
		}
	}
	if told < 1500 || not < 4000 {
		t.Errorf("%d met, %d not: too few to tell", told, not)
	}
}

// TestP17_6WatchedDevices: devices are watched as RAM is.
func TestP17_6WatchedDevices(t *testing.T) {
	for _, a := range []struct {
		text string
		at   uint64
		size int
		mem  int
	}{
		{"lw a0, 0(s0)", finisher, 4, api.R}, {"sw a1, 0(s0)", finisher, 4, api.W}, {"lw a0, 0(s0)", msip, 4, api.R}, {"sw a1, 0(s0)", msip, 4, api.W},
		{"ld a0, 0(s0)", mtime, 8, api.R}, {"sw a1, 0(s0)", mtime + 4, 4, api.W}, {"sd a1, 0(s0)", mtimecmp, 8, api.W}, {"lb a0, 0(s0)", console, 1, api.R}, {"sb a1, 0(s0)", console + 7, 1, api.W},
	} {
		d := sourced(t, 64, a.text, "nop")
		d.Cpu.X[8], d.Cpu.X[11] = a.at, 9
		for kind, mem := range map[int]int{2: api.W, 3: api.R, 4: api.R | api.W} {
			for _, from := range []uint64{a.at - 1, a.at, a.at + uint64(a.size) - 1, a.at + uint64(a.size)} {
				want := "S05"
				if a.mem&mem != 0 && from >= a.at && from < a.at+uint64(a.size) {
					want = fmt.Sprintf("T05%s:%x;", []string{"watch", "rwatch", "awatch"}[kind-2], from)
				}
				s := made(t, d)
				run(s, fmt.Sprintf("Z%d,%x,1", kind, from), "Z0,80000004,0")
				ask(t, s, "c", want)
				stands(t, s, 1, ram+4)
			}
		}
	}
}

// TestP17_6WatchedNot: what reaches no memory meets no watch: an access that faults, an SC that does not store, a fetch, an interrupt.
func TestP17_6WatchedNot(t *testing.T) {
	for _, text := range []string{"lw a0, 1(s0)", "sw a0, 1(s0)", "ld a0, 0(zero)", "sd a0, 0(zero)", "amoadd.w a0, a1, (zero)", "sc.w a0, a1, (s0)", "sc.d a0, a1, (s0)", "sd a0, 64(s0)", "nop", "ecall", "wfi", "fence", "csrw mscratch, s0"} {
		d := sourced(t, 64, ".option norvc", text, "nop", "1: j 1b")
		d.Cpu.X[8], d.Cpu.Mtvec = ram, ram+8
		s := made(t, d)
		for _, at := range []uint64{0, 1, ones, ones - 3, ram, ram + 1, ram + 4, ram + 8, ram + 64} {
			ask(t, s, fmt.Sprintf("Z4,%x,8", at), "OK")
		}
		ask(t, s, "c", "S02")
	}
}

// TestP17_6Wrapping: a watch whose bytes wrap round 2^64 has them at both ends, and none between.
func TestP17_6Wrapping(t *testing.T) {
	d := sourced(t, 64, "ld a0, 0(s0)", "sd a0, 56(s0)", "lw a1, 0(s1)", "lbu a2, 0(s2)", "ld a3, 0(zero)", "nop")
	d.Cpu.X[8], d.Cpu.X[9], d.Cpu.X[18], d.Cpu.Mtvec = ram, finisher, console, ram+16
	s := made(t, d)
	for i := range uint64(8) {
		ask(t, s, fmt.Sprintf("Z%d,%x,8", 2+i%3, ones-i), "OK")
	}
	ask(t, s, "c", "S02")
	stands(t, s, maxRun, ram+16)
}

// TestP17_6First: of several watches that are met the one that was set first is told; setting one again does not move it, taking it away does.
func TestP17_6First(t *testing.T) {
	d := sourced(t, 64, "amoadd.d a0, a1, (s0)", "nop")
	d.Cpu.X[8] = ram + 32
	watches := []string{"2,80000020,8", "3,80000027,1", "4,8000001f,4", "2,80000024,1", "4,80000020,8"}
	told := []string{"T05watch:80000020;", "T05rwatch:80000027;", "T05awatch:8000001f;", "T05watch:80000024;", "T05awatch:80000020;"}
	r := random(4)
	for range 60 {
		order := r.Perm(len(watches))
		s := made(t, d)
		ask(t, s, "Z0,80000004,0", "OK")
		ask(t, s, "Z3,80000028,8", "OK")
		ask(t, s, "Z2,80000018,8", "OK")
		for _, i := range order {
			ask(t, s, "Z"+watches[i], "OK")
		}
		ask(t, s, "c80000000", told[order[0]])
		ask(t, s, "Z"+watches[order[0]], "OK")
		ask(t, s, "Z"+watches[order[2]], "OK")
		ask(t, s, "c80000000", told[order[0]])
		ask(t, s, "z"+watches[order[0]], "OK")
		ask(t, s, "c80000000", told[order[1]])
		ask(t, s, "Z"+watches[order[0]], "OK")
		for _, i := range slices.Concat(order[1:], order[:1]) {
			ask(t, s, "c80000000", told[i])
			ask(t, s, "z"+watches[i], "OK")
		}
		ask(t, s, "c80000000", "S05")
	}
}

// TestP17_6Named: a watch's address is told in hex without leading zeros, as it was set.
func TestP17_6Named(t *testing.T) {
	d := sourced(t, 64, "sb a0, 0(s0)", "nop")
	d.Cpu.X[8] = console + 7
	s := made(t, d)
	ask(t, s, "Z4,0000000010000007,1", "OK")
	ask(t, s, "c", "T05awatch:10000007;")
	s = made(t, d)
	ask(t, s, "Z2,0FFFFFFF,8", "OK") // ends a byte ahead
	ask(t, s, "Z2,00FFFFFFF,9", "E02")
	ask(t, s, "Z2,010000000,8", "OK")
	ask(t, s, "c", "T05watch:10000000;")
	d.Cpu.X[8] = ram + 0x3a
	s = made(t, d)
	ask(t, s, "Z2,8000003A,1", "OK")
	ask(t, s, "c", "T05watch:8000003a;")
}
