package deck_test

import (
	"fmt"
	"strings"
	"testing"

	"anvil/api"
	"anvil/speak"
)

// TestP14_1Lines: each kind of line as it is, with a word too many, with one too few, and with a string in a word's place.
func TestP14_1Lines(t *testing.T) {
	for _, line := range []string{
		"mtime 1", "pc 0x80000004", "mode m", "mode u", "waiting", "reg a0 1", "csr mie 8", "csr 0x304 8", "pmp 0 0x1f 1", "res 0x80000000 4",
		"part 0x80000000 8 rwx", "source", "steps 2",
	} {
		words := strings.Split(line, " ")
		isSource := line == "source"
		text := behindHead(line)
		if isSource {
			text = behindHead(line, "end")
		}
		read(t, text)
		for at := range len(words) {
			quoted := append(append([]string{}, words[:at]...), `"`+words[at]+`"`)
			refuses(t, api.ErrLine, strings.Join(append(quoted, words[at+1:]...), " "))
			if at > 0 {
				refuses(t, api.ErrLine, strings.Join(words[:at], " "))
			}
		}
		for _, more := range []string{"1", "x", "-", `""`, `"1"`, "#"} {
			refuses(t, api.ErrLine, line+" "+more)
		}
		refuses(t, api.ErrLine, strings.ToUpper(line))
		refuses(t, api.ErrLine, line+"x")
	}
}

// TestP14_1First: the first line and the second one are just those.
func TestP14_1First(t *testing.T) {
	for _, first := range []string{"anvil", "anvil 2", "anvil 01", "anvil 0x1", "anvil -1", "anvil 1 1", "anvil 1.0", "Anvil 1", "anvil1", "ram 16", "1 anvil", "pc 0", "step", "source", "end", "data 00", "anvil trace 1"} {
		refused(t, joined(first, "ram 16"), 1, api.ErrLine)
		refused(t, joined("# x", "", first, "ram 16"), 3, api.ErrLine)
	}
	for _, second := range []string{"ram", "ram x", "ram 16 16", "ram 16,", "Ram 16", "ram16", "16", "anvil 1", "pc 0", "mtime 0", "step", "source", "elf", "part 0x80000000 0 -", "end", "data 00"} {
		refused(t, joined("anvil 1", second, "ram 16"), 2, api.ErrLine)
	}
	for _, other := range []string{"ram 16", "ram 64", "anvil 1", "end", "bla", "raw", "trace", "output \"a\"", "e", "pcs 1", "Pc 1", "elfs", "reg", "mip 1", "mstatus 8", "tick", "input \"a\"", "world"} {
		refuses(t, api.ErrLine, other)
		refuses(t, api.ErrLine, "step", other)
	}
}

// TestP14_1Ram: which sizes RAM can have.
func TestP14_1Ram(t *testing.T) {
	for _, size := range []int{8, 16, 24, 4096, 65528, maxRam} {
		reads(t, joined("anvil 1", fmt.Sprint("ram ", size)), plain(size))
		reads(t, joined("anvil 1", fmt.Sprintf("ram 0x%X", size)), plain(size))
	}
	for _, size := range []string{"0", "1", "4", "7", "9", "12", "65535", "65537", "65544", "131072", "4294967296", "4294967304", "9223372036854775808", "18446744073709551608", "18446744073709551615", "0x0"} {
		refused(t, joined("anvil 1", "ram "+size), 2, api.ErrSetting)
	}
}

// TestP14_1Settings: what each setting sets, and that the last one counts.
func TestP14_1Settings(t *testing.T) {
	says(t, func(d *api.Deck) {})
	says(t, func(d *api.Deck) { d.Mtime = 5 }, "mtime 5")
	says(t, func(d *api.Deck) { d.Mtime = 0 }, "mtime 5", "mtime 0")
	says(t, func(d *api.Deck) { d.Cpu.Pc = 0x1234 }, "pc 0x1234")
	says(t, func(d *api.Deck) { d.Cpu.Pc = 0 }, "pc 5", "pc 1")
	says(t, func(d *api.Deck) { d.Cpu.Mode = api.U }, "mode u")
	says(t, func(d *api.Deck) {}, "mode u", "mode m")
	says(t, func(d *api.Deck) { d.Cpu.Mode = api.U }, "mode m", "mode u", "mode u")
	says(t, func(d *api.Deck) { d.Cpu.Waiting = true }, "waiting")
	says(t, func(d *api.Deck) { d.Cpu.Waiting = true }, "waiting", "waiting")
	for _, mode := range []string{"s", "M", "U", "mu", "um", "0", "3", "-", "m,", "\xff"} {
		refuses(t, api.ErrLine, "mode "+mode)
	}
	says(t, func(d *api.Deck) {
		d.Mtime, d.Cpu.Pc, d.Cpu.Mode, d.Cpu.Waiting = 1<<64-1, 0xfffffffffffffffe, api.U, true
		d.Cpu.X[1], d.Cpu.X[31], d.Cpu.Mscratch, d.Cpu.Pmp.Cfg[2] = 3, 4, 5, 0x9f
		d.Cpu.Res = api.Res{Valid: true, Addr: 0x10, Size: 8}
		d.Parts = []api.Seg{{Addr: ram + 64, Flags: 2}}
		d.Worlds = []api.World{{Soft: true}}
	}, "mtime -1", "part 0x80000040 0 w", "pc -1", "res 0x10 8", "mode u", "pmp 2 0x9f 0", "waiting", "csr mscratch 5", "reg t6 4", "reg ra 3", "step soft")
}

// TestP14_1Registers: every name that a register has, and names that none has.
func TestP14_1Registers(t *testing.T) {
	for n := range 32 {
		names := []string{speak.Reg(n), fmt.Sprint("x", n)}
		if n == 8 {
			names = append(names, "fp")
		}
		for _, name := range names {
			says(t, func(d *api.Deck) {
				if n > 0 {
					d.Cpu.X[n] = 0x1234567890abcdef
				}
			}, "reg "+name+" 0x1234567890abcdef")
		}
	}
	says(t, func(d *api.Deck) { d.Cpu.X[10] = 5 }, "reg a0 -1", "reg x10 5")
	says(t, func(d *api.Deck) { d.Cpu.X[10], d.Cpu.X[11] = 0, 1<<64-1 }, "reg a0 7", "reg a1 -1", "reg a0 0")
	for _, name := range []string{"a9", "x32", "x01", "A0", "x-1", "x", "0", "10", "pc", "mie", "f0", "a0,", "-", "\xff", "ä"} {
		refuses(t, api.ErrName, "reg "+name+" 5")
		refuses(t, api.ErrLine, "reg "+name+" x")
		refuses(t, api.ErrLine, "reg "+name)
		refuses(t, api.ErrLine, "reg "+name+" 5 5")
	}
}

// csrOf is a CSR that decks say, where the Cpu keeps it, and of all bits the ones that are proper.
type csrOf struct {
	name   string
	number int
	at     func(c *api.Cpu) *uint64
	bits   uint64
}

func csrsOf() []csrOf {
	const ones = 1<<64 - 1
	return []csrOf{
		{"mstatus", 0x300, func(c *api.Cpu) *uint64 { return &c.Mstatus }, 0x200221888},
		{"mtvec", 0x305, func(c *api.Cpu) *uint64 { return &c.Mtvec }, ones - 2},
		{"mie", 0x304, func(c *api.Cpu) *uint64 { return &c.Mie }, 0x888},
		{"mcounteren", 0x306, func(c *api.Cpu) *uint64 { return &c.Mcounteren }, 7},
		{"mcountinhibit", 0x320, func(c *api.Cpu) *uint64 { return &c.Mcountinhibit }, 5},
		{"menvcfg", 0x30a, func(c *api.Cpu) *uint64 { return &c.Menvcfg }, 1},
		{"mscratch", 0x340, func(c *api.Cpu) *uint64 { return &c.Mscratch }, ones},
		{"mepc", 0x341, func(c *api.Cpu) *uint64 { return &c.Mepc }, ones - 1},
		{"mcause", 0x342, func(c *api.Cpu) *uint64 { return &c.Mcause }, ones},
		{"mtval", 0x343, func(c *api.Cpu) *uint64 { return &c.Mtval }, ones},
		{"mcycle", 0xb00, func(c *api.Cpu) *uint64 { return &c.Mcycle }, ones},
		{"minstret", 0xb02, func(c *api.Cpu) *uint64 { return &c.Minstret }, ones},
	}
}

// TestP14_1Csrs: the CSRs that a deck may say, by name and by number, are made proper; no other is one.
func TestP14_1Csrs(t *testing.T) {
	isOne := map[int]bool{}
	for _, own := range csrsOf() {
		isOne[own.number] = true
		for _, name := range []string{own.name, fmt.Sprint(own.number), fmt.Sprintf("0x%x", own.number), fmt.Sprintf("0x0%X", own.number)} {
			says(t, func(d *api.Deck) { *own.at(&d.Cpu) = own.bits }, "csr "+name+" -1")
			says(t, func(d *api.Deck) {}, "csr "+name+" -1", "csr "+name+" 0")
			refuses(t, api.ErrLine, "csr "+name+" x")
		}
	}
	for n := range 4096 {
		if !isOne[n] {
			refuses(t, api.ErrName, fmt.Sprintf("csr %d 1", n))
			if name := speak.Csr(n); name[0] != '0' {
				refuses(t, api.ErrName, "csr "+name+" 1")
			}
		}
	}
	for _, name := range []string{"Mie", "mip", "4096", "0x1000", "-0", "-1", "sstatus", "a0", "pmpcfg0", "mie,", "\xff", "x"} {
		refuses(t, api.ErrName, "csr "+name+" 1")
		refuses(t, api.ErrLine, "csr "+name+" x")
		refuses(t, api.ErrLine, "csr "+name)
	}
	says(t, func(d *api.Deck) { d.Cpu.Mstatus = uxl | 8 }, "csr mstatus 0x1008", "csr mstatus 0x808")
	says(t, func(d *api.Deck) { d.Cpu.Mstatus = uxl }, "csr mstatus 0x1800", "csr 0x300 0x1000")
}

// TestP14_1Entries: an entry of memory protection is set whatever is locked; of C the low eight bits count.
func TestP14_1Entries(t *testing.T) {
	for i := range 16 {
		says(t, func(d *api.Deck) { d.Cpu.Pmp.Cfg[i], d.Cpu.Pmp.Addr[i] = 0x9f, 1<<54-1 }, fmt.Sprintf("pmp %d -1 -1", i))
		says(t, func(d *api.Deck) { d.Cpu.Pmp.Cfg[i], d.Cpu.Pmp.Addr[i] = 0x18, 7 }, fmt.Sprintf("pmp %d 0xff1a 7", i))
		says(t, func(d *api.Deck) { d.Cpu.Pmp.Cfg[i], d.Cpu.Pmp.Addr[i] = 0x8b, 2 }, fmt.Sprintf("pmp %d 0x9f 1", i), fmt.Sprintf("pmp %d 0x8b 2", i))
	}
	says(t, func(d *api.Deck) {
		d.Cpu.Pmp.Cfg[0], d.Cpu.Pmp.Addr[0] = 0x8f, 5
		d.Cpu.Pmp.Cfg[1], d.Cpu.Pmp.Addr[1] = 0x8f, 6
	}, "pmp 1 0x8f 6", "pmp 0 0x8f 5")
	says(t, func(d *api.Deck) {}, "pmp 3 0x9f 9", "pmp 3 0 0")
	for _, i := range []string{"16", "0x10", "17", "255", "256", "4294967296", "18446744073709551615"} {
		refuses(t, api.ErrSetting, "pmp "+i+" 0 0")
		refuses(t, api.ErrLine, "pmp "+i+" 0 x")
		refuses(t, api.ErrLine, "pmp "+i+" 0")
	}
}

// TestP14_1Reservation: a reservation that may not be is none; a size that none has is refused.
func TestP14_1Reservation(t *testing.T) {
	res := func(addr uint64, size int) func(d *api.Deck) {
		return func(d *api.Deck) { d.Cpu.Res = api.Res{Valid: true, Addr: addr, Size: size} }
	}
	says(t, res(ram, 4), "res 0x80000000 4")
	says(t, res(ram+4, 4), "res 0x80000004 0x4")
	says(t, res(ram+8, 8), "res 0x80000008 8")
	says(t, res(0, 8), "res 0 08")
	says(t, res(1<<64-8, 8), "res -8 8")
	says(t, res(8, 4), "res 1 4", "res 8 4")
	says(t, func(*api.Deck) {}, "res 0x80000001 4")
	says(t, func(*api.Deck) {}, "res 0x80000004 8")
	says(t, func(*api.Deck) {}, "res 8 8", "res 4 8")
	for _, size := range []string{"0", "1", "2", "3", "5", "7", "9", "16", "-4", "-8", "0x100000004", "18446744073709551615"} {
		refuses(t, api.ErrSetting, "res 0x80000000 "+size)
	}
}
