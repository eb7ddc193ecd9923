package watch_test

import (
	"fmt"
	"reflect"
	"testing"

	"anvil/api"
	"anvil/csr"
	"anvil/trap"
)

// keptCsrs is the names of the CSRs of rule 9, each with a bit of it that can be turned.
func keptCsrs() map[string]uint64 {
	return map[string]uint64{
		"Mstatus": 1 << 21, "Mtvec": 1 << 20, "Mie": 0x80, "Mcounteren": 2, "Mcountinhibit": 4,
		"Menvcfg": 1, "Mscratch": 1 << 63, "Mepc": 2, "Mcause": 1, "Mtval": 1,
	}
}

// turned is a Cpu with these bits of a CSR turned.
func turned(c api.Cpu, name string, bits uint64) api.Cpu {
	v := reflect.ValueOf(&c).Elem().FieldByName(name)
	v.SetUint(v.Uint() ^ bits)
	return c
}

// TestP18_1Rule9: in U each CSR stays, but for those that a trap tells; in M it may change. (What a trap itself makes of some is rule 10's.)
func TestP18_1Rule9(t *testing.T) {
	told := map[string]bool{"Mstatus": true, "Mepc": true, "Mcause": true, "Mtval": true}
	var changes []change
	for name, bits := range keptCsrs() {
		do := func(l *look) { l.a.Cpu = turned(l.a.Cpu, name, bits) }
		for _, of := range []string{"addi", "sd", "ld", "nop", "c.nop", "amoadd", "wfi"} {
			changes = append(changes, change{name, of + "U", do, only(9)}, change{name, of + "M", do, none()})
		}
		changes = append(changes, change{name, "waitU", do, only(9, 11)}, change{name, "waitM", do, only(11)})
		changes = append(changes, change{name, "offU", do, only(3, 9)}, change{name, "offM", do, only(3)})
		for _, of := range []string{"ecall", "illegal", "interrupt"} {
			inU, inM := only(9), none()
			if told[name] {
				inU, inM = only(10), only(10)
			}
			changes = append(changes, change{name, of + "U", do, inU}, change{name, of + "M", do, inM})
		}
		changes = append(changes, change{name + " in M to U", "mret", do, none()})
	}
	for name, do := range map[string]func(l *look){
		"Mcycle": func(l *look) { l.a.Cpu.Mcycle = 1 }, "Minstret": func(l *look) { l.a.Cpu.Minstret = 1 },
	} {
		changes = append(changes, change{name, "wfiU", do, none()})
	}
	judged(t, changes)
}

// entering is a look of a trap with these CSRs, in a mode, at a pc, as trap.Enter has it behind.
func entering(kind, mode int, status, vector, cause, tval uint64) look {
	l := look{b: still(mode, addi), w: api.World{}}
	l.b.Cpu.Mstatus, l.b.Cpu.Mtvec, l.b.Cpu.Waiting = status, vector, true
	l.a = copiedWhole(l.b)
	l.a.Cpu = trap.Enter(l.b.Cpu, cause, tval)
	l.a.Cpu.Mcycle++
	l.b.Cpu.Pc, l.a.Cpu.Mepc = ram+6, ram+6
	l.r = api.Row{Kind: kind, Cause: cause, Tval: tval}
	l.follow()
	return l
}

// causes is causes with and without bit 63.
func causes() []uint64 {
	return []uint64{0, 2, 3, 7, 11, 1 << 62, 1<<63 - 1, 1 << 63, 1<<63 | 3, 1<<63 | 7, 1<<63 | 11, 1<<63 | 1<<61, 1<<63 | 1<<62, ones}
}

// TestP18_1Rule10Vectors: where a trap goes on hangs on its Cause and on Mtvec alone, not on the row's kind; sums wrap.
func TestP18_1Rule10Vectors(t *testing.T) {
	for _, kind := range []int{api.RowException, api.RowInterrupt} {
		for _, cause := range causes() {
			for _, vector := range []uint64{0, 1, 4, 5, 0x101, 0x102, 0x103, 0x80000004, ones, ones - 3, ones - 2} {
				for _, mode := range []int{api.U, api.M} {
					l := entering(kind, mode, uxl, vector, cause, 9)
					l.a.Cpu.Mtvec = csr.Proper(l.b.Cpu).Mtvec
					want := vector &^ 3
					if cause>>63 == 1 && vector&1 == 1 {
						want += 4 * (cause - 1<<63)
					}
					for _, pc := range []uint64{want, want + 2, want - 4, vector &^ 3, vector&^3 + 4*cause, vector&^3 + 4*11, want ^ 1<<63} {
						l.a.Cpu.Pc = pc
						l.follow()
						rule := 10
						if pc == want {
							rule = 0
						}
						l.tells(t, fmt.Sprintf("kind %d, mode %d, cause %#x, Mtvec %#x, pc %#x", kind, mode, cause, vector, pc), rule)
					}
				}
			}
		}
	}
}

// TestP18_1Rule10Status: MPIE is what MIE was, MIE is 0, MPP is the mode; all else of Mstatus stays.
func TestP18_1Rule10Status(t *testing.T) {
	statuses := []uint64{}
	for k := range uint64(64) {
		status := uint64(uxl)
		for i, bit := range []uint64{8, 0x80, 0x1800, 1 << 17, 1 << 21} {
			if k>>i&1 == 1 {
				status |= bit
			}
		}
		statuses = append(statuses, status)
	}
	for _, mode := range []int{api.U, api.M} {
		for _, was := range statuses {
			want := was &^ 0x1888
			if was&8 != 0 {
				want |= 0x80
			}
			if mode == api.M {
				want |= 0x1800
			}
			l := entering(api.RowException, mode, was, 0x100, 2, 0)
			for _, is := range statuses {
				l.a.Cpu.Mstatus = is
				rule := 10
				if is == want {
					rule = 0
				}
				l.tells(t, fmt.Sprintf("mode %d, Mstatus %#x and %#x", mode, was, is), rule)
			}
		}
	}
}

// TestP18_1Rule10Rest: Mepc, Mcause, Mtval, the mode, waiting and the reservation.
func TestP18_1Rule10Rest(t *testing.T) {
	var changes []change
	for _, of := range []string{"ecallU", "ecallM", "illegalU", "illegalM", "interruptU", "interruptM", "externalU", "externalM"} {
		changes = append(changes,
			change{"Mepc", of, func(l *look) { l.a.Cpu.Mepc += 2 }, only(10)},
			change{"Mepc is the handler", of, func(l *look) { l.a.Cpu.Mepc = 0 }, only(10)},
			change{"Mcause", of, func(l *look) { l.a.Cpu.Mcause ^= 1 << 63 }, only(10)},
			change{"Mcause", of, func(l *look) { l.a.Cpu.Mcause++ }, only(10)},
			change{"Mtval", of, func(l *look) { l.a.Cpu.Mtval++ }, only(10)},
			change{"Tval", of, func(l *look) { l.r.Tval++ }, only(10)},
			change{"Tval and Mtval", of, func(l *look) { l.r.Tval++; l.a.Cpu.Mtval++ }, none()},
			change{"Waiting", of, func(l *look) { l.a.Cpu.Waiting = true }, only(10)},
			change{"Waiting ahead", of, func(l *look) { l.b.Cpu.Waiting = true }, none()},
			change{"Res", of, func(l *look) { l.a.Cpu.Res = l.b.Cpu.Res }, only(10)},
			change{"no Res ahead", of, func(l *look) { l.b.Cpu.Res = api.Res{} }, none()},
			change{"the other kind", of, func(l *look) { l.r.Kind ^= 1 }, none()},
		)
	}
	changes = append(changes,
		change{"in U still", "ecallU", func(l *look) { l.a.Cpu.Mode = api.U; l.follow() }, only(10)},
		change{"to U", "ecallM", func(l *look) { l.a.Cpu.Mode = api.U; l.follow() }, only(10, 18)},
		change{"Pc", "ecallU", func(l *look) { l.a.Cpu.Pc += 4; l.follow() }, only(10)},
		change{"Mtvec behind it", "ecallM", func(l *look) { l.a.Cpu.Mtvec += 16; l.a.Cpu.Pc += 16; l.follow() }, only(10)},
		change{"Cause and Mcause", "ecallU", func(l *look) { l.r.Cause, l.a.Cpu.Mcause = 99, 99 }, none()},
		change{"no trap", "addiM", func(l *look) { l.a.Cpu.Mepc, l.a.Cpu.Mcause, l.a.Cpu.Mtval, l.r.Cause, l.r.Tval = 2, 3, 4, 5, 6 }, none()},
	)
	judged(t, changes)
}

// TestP18_1Rule11: a wait, which keeps all of the Cpu but Mcycle and has nothing to wake by, as the bus is behind the step.
func TestP18_1Rule11(t *testing.T) {
	var changes []change
	for _, of := range []string{"waitU", "waitM"} {
		changes = append(changes,
			change{"not waiting", of, func(l *look) { l.b.Cpu.Waiting, l.a.Cpu.Waiting = false, false }, only(11)},
			change{"it began to wait", of, func(l *look) { l.b.Cpu.Waiting = false }, only(11)},
			change{"it waits no more", of, func(l *look) { l.a.Cpu.Waiting = false }, only(11)},
			change{"Pc", of, func(l *look) { l.a.Cpu.Pc += 4; l.follow() }, only(11)},
			change{"Res", of, func(l *look) { l.a.Cpu.Res = api.Res{} }, only(11)},
			change{"software", of, func(l *look) { l.w.Soft, l.a.Bus.Soft = true, true }, only(11)},
			change{"external", of, func(l *look) { l.w.Ext, l.a.Bus.Ext = true, true }, only(11)},
			change{"external that is gone", of, func(l *look) { l.b.Bus.Ext, l.b.Bus.Soft = true, true }, none()},
			change{"external that is not asked for", of, func(l *look) { l.w.Ext, l.a.Bus.Ext, l.b.Cpu.Mie, l.a.Cpu.Mie = true, true, 0x88, 0x88 }, none()},
			change{"msip", of, func(l *look) { l.b.Bus.Msip, l.a.Bus.Msip = 1, 1 }, only(11)},
			change{"msip's other bits", of, func(l *look) { l.b.Bus.Msip, l.a.Bus.Msip = 0xfffffffe, 0xfffffffe }, none()},
			change{"msip and Mie without it", of, func(l *look) { l.b.Bus.Msip, l.a.Bus.Msip, l.b.Cpu.Mie, l.a.Cpu.Mie = 1, 1, 0x880, 0x880 }, none()},
			change{"time", of, func(l *look) { l.b.Bus.Mtimecmp, l.a.Bus.Mtimecmp = 7, 7 }, only(11)},
			change{"time 1 below", of, func(l *look) { l.b.Bus.Mtimecmp, l.a.Bus.Mtimecmp = 8, 8 }, none()},
			change{"time by the tick", of, func(l *look) { l.b.Bus.Mtimecmp, l.a.Bus.Mtimecmp, l.w.Tick, l.a.Bus.Mtime = 8, 8, true, 8 }, only(11)},
			change{"time that wraps", of, func(l *look) {
				l.b.Bus.Mtimecmp, l.a.Bus.Mtimecmp, l.b.Bus.Mtime, l.a.Bus.Mtime = ones, ones, 1<<63, 1<<63
			}, none()},
			change{"time that is not asked for", of, func(l *look) { l.b.Bus.Mtimecmp, l.a.Bus.Mtimecmp, l.b.Cpu.Mie, l.a.Cpu.Mie = 0, 0, 0x808, 0x808 }, none()},
			change{"the console", of, func(l *look) { l.b.Bus.Ier, l.a.Bus.Ier = 1, 1 }, only(11)},
			change{"the console with one byte", of, func(l *look) { l.b.Bus.Ier, l.a.Bus.Ier, l.a.Bus.Input = 1, 1, []byte{0} }, only(11)},
			change{"the console's other bits", of, func(l *look) { l.b.Bus.Ier, l.a.Bus.Ier = 0xfe, 0xfe }, none()},
			change{"the console without input", of, func(l *look) { l.b.Bus.Ier, l.a.Bus.Ier, l.a.Bus.Input = 1, 1, nil }, none()},
			change{"the console behind the step", of, func(l *look) { l.b.Bus.Input, l.b.Bus.Ier, l.a.Bus.Ier = nil, 1, 1 }, only(11)},
			change{"a bus's other parts", of, func(l *look) {
				l.a.Bus.Lcr++
				l.a.Bus.Mcr++
				l.a.Bus.Scratch++
				l.a.Bus.Overrun = true
				l.a.Bus.Code = 5
			}, none()},
			change{"Mcycle", of, func(l *look) { l.a.Cpu.Mcycle += 9 }, only(12)},
			change{"Minstret", of, func(l *look) { l.a.Cpu.Minstret += 9 }, only(11, 13)},
		)
	}
	changes = append(changes,
		change{"no wait", "addiM", func(l *look) { l.b.Cpu.Waiting = true }, none()},
		change{"told as a wait", "nopM", func(l *look) { l.r.Kind = api.RowWait }, only(11, 13)},
	)
	judged(t, changes)
}

// counted is a look of such a row with these counters.
func counted(kind int, raw uint32, inhibit uint64, cycle, isCycle, count, isCount uint64) look {
	l := look{b: still(api.M, addi)}
	l.b.Cpu.Waiting, l.b.Cpu.Mcountinhibit = kind == api.RowWait, inhibit
	if kind == api.RowOff {
		l.b.Bus.Off = api.Passed
	}
	l.a = copiedWhole(l.b)
	l.r = api.Row{Kind: kind, Raw: raw}
	if kind == api.RowException || kind == api.RowInterrupt {
		l.a.Cpu = trap.Enter(l.b.Cpu, 0, 0)
	}
	l.b.Cpu.Mcycle, l.a.Cpu.Mcycle, l.b.Cpu.Minstret, l.a.Cpu.Minstret = cycle, isCycle, count, isCount
	l.follow()
	return l
}

// TestP18_1Rule12And13: the counters of each kind of row, by what is inhibited, up to the last number.
func TestP18_1Rule12And13(t *testing.T) {
	for _, raw := range []uint32{0x13, 0x73, 0xfffffff3, 0x00000072, 0x33, 0x6f, 0xff, mret, 0x7300, 1, 0} {
		for kind := api.RowRetire; kind <= api.RowOff; kind++ {
			for _, inhibit := range []uint64{0, 1, 4, 5} {
				for _, from := range []uint64{0, 5, ones, ones - 1, 1<<63 - 1} {
					for _, by := range []uint64{0, 1, 2, ones} {
						writes := kind == api.RowRetire && raw&0x7f == 0x73
						cycle := truth(inhibit&1 == 0)
						count := truth(kind == api.RowRetire && inhibit&4 == 0)
						want := 0
						if kind == api.RowOff {
							cycle = 0
							if by != 0 {
								want = 3
							}
						} else if !writes && by != cycle {
							want = 12
						}
						name := fmt.Sprintf("kind %d, raw %#x, inhibited %d, from %#x by %d", kind, raw, inhibit, from, by)
						counted(kind, raw, inhibit, from, from+by, 8, 8+count).tells(t, "Mcycle: "+name, want)
						if want = 0; !writes && by != count {
							want = map[int]int{api.RowWait: 11, api.RowOff: 3}[kind]
							want = max(want, 13*int(truth(want == 0)))
						}
						counted(kind, raw, inhibit, 8, 8+cycle, from, from+by).tells(t, "Minstret: "+name, want)
					}
				}
			}
		}
	}
	judged(t, []change{
		{"inhibited behind the step", "addiM", func(l *look) { l.a.Cpu.Mcountinhibit = 5 }, none()},
		{"inhibited behind the step, and not counted", "addiM", func(l *look) { l.a.Cpu.Mcountinhibit, l.a.Cpu.Mcycle = 5, 0x55 }, only(12)},
		{"inhibited ahead of the step, and counted", "addiM", func(l *look) { l.b.Cpu.Mcountinhibit = 5 }, only(12, 13)},
		{"Minstret stands", "addiU", func(l *look) { l.a.Cpu.Minstret-- }, only(13)},
		{"Mcycle stands", "ecallU", func(l *look) { l.a.Cpu.Mcycle-- }, only(12)},
		{"Minstret of a trap", "ecallU", func(l *look) { l.a.Cpu.Minstret++ }, only(13)},
		{"Mcycle that was written", "csrwSelf", func(l *look) { l.a.Cpu.Mcycle, l.a.Cpu.Minstret = 77, 88 }, none()},
		{"Mcycle of a trap at a csr instruction", "ecallM", func(l *look) { l.r.Raw, l.a.Cpu.Mcycle = 0xb0031073, 77 }, only(12)},
	})
}

func truth(so bool) uint64 {
	if so {
		return 1
	}
	return 0
}
