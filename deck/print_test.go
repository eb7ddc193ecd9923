package deck_test

import (
	"fmt"
	"math/rand/v2"
	"strings"
	"testing"

	"anvil/api"
	"anvil/csr"
	"anvil/deck"
	"anvil/speak"
)

// prints: a deck must have this text.
func prints(t *testing.T, d api.Deck, want string) {
	t.Helper()
	if text, why := deck.Print(d); text != want || why != api.OK {
		t.Errorf("P14.2: %q, error %d, want %q", shown(text), why, shown(want))
	}
}

// tells: the plain deck with a change must have these lines behind its RAM's.
func tells(t *testing.T, change func(d *api.Deck), lines ...string) {
	t.Helper()
	d := plain(64)
	change(&d)
	prints(t, d, behindHead(lines...))
}

// cannotPrint: a deck has no text, for this reason.
func cannotPrint(t *testing.T, d api.Deck, want api.Errno) {
	t.Helper()
	if text, why := deck.Print(d); text != "" || why != want {
		t.Errorf("P14.2: %q, error %d, want error %d", shown(text), why, want)
	}
}

// TestP14_2Cpu: the Cpu's lines: which are told, and how.
func TestP14_2Cpu(t *testing.T) {
	tells(t, func(d *api.Deck) {}, "pc 0x80000000", "mode m")
	tells(t, func(d *api.Deck) { d.Cpu.Pc = 0 }, "pc 0x0", "mode m")
	tells(t, func(d *api.Deck) { d.Cpu.Pc = 0xfedcba9876543210 }, "pc 0xfedcba9876543210", "mode m")
	tells(t, func(d *api.Deck) { d.Cpu.Mode = api.U }, "pc 0x80000000", "mode u")
	tells(t, func(d *api.Deck) { d.Mtime = 1 }, "mtime 0x1", "pc 0x80000000", "mode m")
	tells(t, func(d *api.Deck) { d.Mtime = 1<<64 - 1 }, "mtime 0xffffffffffffffff", "pc 0x80000000", "mode m")
	tells(t, func(d *api.Deck) { d.Cpu.Waiting = true }, "pc 0x80000000", "mode m", "waiting")
	for n := 1; n < 32; n++ {
		tells(t, func(d *api.Deck) { d.Cpu.X[n] = uint64(0xab0 + n) }, "pc 0x80000000", "mode m", fmt.Sprintf("reg %s 0x%x", speak.Reg(n), 0xab0+n))
	}
	for _, own := range csrsOf() {
		tells(t, func(d *api.Deck) { *own.at(&d.Cpu) = own.bits }, "pc 0x80000000", "mode m", fmt.Sprintf("csr %s 0x%x", own.name, own.bits))
	}
	for i := range 16 {
		tells(t, func(d *api.Deck) { d.Cpu.Pmp.Cfg[i] = 0x9f }, "pc 0x80000000", "mode m", fmt.Sprintf("pmp %d 0x9f 0x0", i))
		tells(t, func(d *api.Deck) { d.Cpu.Pmp.Addr[i] = 0x3fffffffffffff }, "pc 0x80000000", "mode m", fmt.Sprintf("pmp %d 0x0 0x3fffffffffffff", i))
	}
	tells(t, func(d *api.Deck) { d.Cpu.Res = api.Res{Valid: true, Addr: 0x80000008, Size: 8} }, "pc 0x80000000", "mode m", "res 0x80000008 8")
	tells(t, func(d *api.Deck) { d.Cpu.Res = api.Res{Valid: true, Size: 4} }, "pc 0x80000000", "mode m", "res 0x0 4")
}

// TestP14_2Proper: a Cpu that is not proper is told as the proper one.
func TestP14_2Proper(t *testing.T) {
	prints(t, api.Deck{Ram: 8}, "anvil 1\nram 8\npc 0x0\nmode u\n")
	tells(t, func(d *api.Deck) { d.Cpu.Pc++; d.Cpu.X[0] = 5; d.Cpu.Mode = 1; d.Cpu.Mstatus = 0x1000 }, "pc 0x80000000", "mode u")
	tells(t, func(d *api.Deck) { d.Cpu.Mode = -1; d.Cpu.Mie = 0x777 }, "pc 0x80000000", "mode u")
	tells(t, func(d *api.Deck) { d.Cpu.Mie = 0xffff; d.Cpu.Mepc = 1; d.Cpu.Mtvec = 3 }, "pc 0x80000000", "mode m", "csr mtvec 0x1", "csr mie 0x888")
	tells(t, func(d *api.Deck) { d.Cpu.Pmp.Cfg[1], d.Cpu.Pmp.Cfg[2], d.Cpu.Pmp.Addr[3] = 2, 0x60, 1<<54 }, "pc 0x80000000", "mode m")
	for _, res := range []api.Res{{Addr: 8}, {Size: 4}, {Valid: true}, {Valid: true, Addr: 2, Size: 4}, {Valid: true, Addr: 4, Size: 8}, {Valid: true, Addr: 8, Size: 2}, {Valid: true, Size: -4}} {
		tells(t, func(d *api.Deck) { d.Cpu.Res = res }, "pc 0x80000000", "mode m")
	}
}

// TestP14_2Order: all lines at once, in their order.
func TestP14_2Order(t *testing.T) {
	d := api.Deck{Ram: maxRam, Mtime: 7}
	lines := []string{"anvil 1", "ram 65536", "mtime 0x7", "pc 0x2", "mode m", "waiting"}
	d.Cpu = api.Cpu{Pc: 2, Mode: api.M, Waiting: true}
	for n := 1; n < 32; n++ {
		d.Cpu.X[n] = uint64(n)
		lines = append(lines, fmt.Sprintf("reg %s 0x%x", speak.Reg(n), n))
	}
	for i, own := range csrsOf() {
		*own.at(&d.Cpu) = own.bits
		lines = append(lines, fmt.Sprintf("csr %s 0x%x", csrNames[i], own.bits))
	}
	for i := range 16 {
		d.Cpu.Pmp.Cfg[i], d.Cpu.Pmp.Addr[i] = 0x81, uint64(i)
		lines = append(lines, fmt.Sprintf("pmp %d 0x81 0x%x", i, i))
	}
	d.Cpu.Res = api.Res{Valid: true, Addr: 16, Size: 8}
	d.Parts = []api.Seg{{Addr: ram + 4, Size: 2, Flags: 6, Data: []byte{0xab}}, {Addr: ram, Size: 65536, Flags: 1}}
	d.Worlds = []api.World{{Tick: true}, {Soft: true, Ext: true, Tick: true, Input: []byte("x")}}
	lines = append(lines, "res 0x10 8", "part 0x80000004 2 wx", "data ab", "part 0x80000000 65536 r", "step tick", `step tick ext soft input "x"`)
	prints(t, d, joined(lines...))
}

// csrNames is the order in which the document names the CSRs of a deck.
var csrNames = strings.Fields("mstatus mtvec mie mcounteren mcountinhibit menvcfg mscratch mepc mcause mtval mcycle minstret")

// TestP14_2Parts: parts, their rights, and their bytes in lines of 32.
func TestP14_2Parts(t *testing.T) {
	for flags, text := range []string{"-", "r", "w", "rw", "x", "rx", "wx", "rwx"} {
		tells(t, func(d *api.Deck) { d.Parts = []api.Seg{{Addr: ram, Size: 10, Flags: flags}} }, "pc 0x80000000", "mode m", "part 0x80000000 10 "+text)
	}
	for _, size := range []int{0, 1, 31, 32, 33, 63, 64} {
		b := bytesUpTo(size)
		lines := []string{"pc 0x80000000", "mode m", "part 0x80000000 64 -"}
		for at := 0; at < size; at += 32 {
			lines = append(lines, fmt.Sprintf("data %x", b[at:min(size, at+32)]))
		}
		tells(t, func(d *api.Deck) { d.Parts = []api.Seg{{Addr: ram, Size: 64, Data: b}} }, lines...)
	}
	tells(t, func(d *api.Deck) { d.Parts = []api.Seg{{Addr: ram + 64}} }, "pc 0x80000000", "mode m", "part 0x80000040 0 -")
}

// TestP14_2Worlds: worlds that are alike are told by one line, as long as the run goes.
func TestP14_2Worlds(t *testing.T) {
	tick, a, b := api.World{Tick: true}, api.World{Input: []byte("a")}, api.World{Input: []byte("b")}
	tells(t, worlds(api.World{}), "pc 0x80000000", "mode m", "step")
	tells(t, worlds(api.World{Input: []byte{}}, api.World{}), "pc 0x80000000", "mode m", "steps 2")
	tells(t, worlds(tick, tick, tick, api.World{}, tick), "pc 0x80000000", "mode m", "steps 3 tick", "step", "step tick")
	tells(t, worlds(a, a, b, a, b, b), "pc 0x80000000", "mode m", `steps 2 input "a"`, `step input "b"`, `step input "a"`, `steps 2 input "b"`)
	all := []api.World{{}, tick, {Ext: true}, {Soft: true}, a, {Tick: true, Ext: true, Soft: true, Input: []byte("a")}, {Input: []byte("aa")}}
	for _, x := range all {
		for _, y := range all {
			d := plain(8)
			d.Worlds = []api.World{x, x, y, y}
			text, _ := deck.Print(d)
			lines := 2
			if modelWorld(x) == modelWorld(y) {
				lines = 1
			}
			if got := strings.Count(text, "steps "); got != lines {
				t.Errorf("P14.2: %+v and %+v: %d lines of runs in %q", x, y, got, text)
			}
		}
	}
	tells(t, worlds(make([]api.World, maxSteps)...), "pc 0x80000000", "mode m", "steps 4000")
	tells(t, worlds(append(make([]api.World, maxSteps-1), tick)...), "pc 0x80000000", "mode m", "steps 3999", "step tick")
}

// TestP14_2Strings: every byte of an input has one text.
func TestP14_2Strings(t *testing.T) {
	for b := range 256 {
		want := fmt.Sprintf(`\x%02x`, b)
		switch {
		case b == '"' || b == '\\':
			want = `\` + string(rune(b))
		case b == 10:
			want = `\n`
		case b >= 32 && b <= 126:
			want = string(rune(b))
		}
		tells(t, worlds(api.World{Input: []byte{'<', byte(b), byte(b)}}), "pc 0x80000000", "mode m", `step input "<`+want+want+`"`)
	}
}

// TestP14_2Cannot: decks that are not valid have no text.
func TestP14_2Cannot(t *testing.T) {
	good := plain(64)
	good.Parts = []api.Seg{{Addr: ram, Size: 8, Flags: 7, Data: make([]byte, 8)}, {Addr: ram + 60, Size: 4}}
	good.Worlds = []api.World{{}, {Input: make([]byte, maxInput)}}
	if _, why := deck.Print(good); why != api.OK {
		t.Fatalf("error %d", why)
	}
	spoilt := func(change func(d *api.Deck)) {
		t.Helper()
		d := good
		d.Parts = append([]api.Seg{}, good.Parts...)
		d.Worlds = append([]api.World{}, good.Worlds...)
		change(&d)
		cannotPrint(t, d, api.ErrSetting)
	}
	for _, size := range []int{0, -8, -1, 1, 4, 7, 9, 63, 65, 65544, 65537, 1 << 40, -1 << 63} {
		spoilt(func(d *api.Deck) { d.Ram = size })
		cannotPrint(t, plain(size), api.ErrSetting)
	}
	for _, flags := range []int{-1, 8, 15, 1 << 32, -8} {
		spoilt(func(d *api.Deck) { d.Parts[1].Flags = flags })
	}
	spoilt(func(d *api.Deck) { d.Parts[0].Size = 7 })
	spoilt(func(d *api.Deck) { d.Parts[0].Size = 65 })
	spoilt(func(d *api.Deck) { d.Parts[0].Size = 1<<64 - 1 })
	spoilt(func(d *api.Deck) { d.Parts[0].Addr = ram - 1 })
	spoilt(func(d *api.Deck) { d.Parts[0].Addr = 0 })
	spoilt(func(d *api.Deck) { d.Parts[1].Addr = ram + 61 })
	spoilt(func(d *api.Deck) { d.Parts[1].Addr = 1<<64 - 1 })
	spoilt(func(d *api.Deck) { d.Parts[1].Addr, d.Parts[1].Size = ram+65, 0 })
	spoilt(func(d *api.Deck) { d.Parts = append(d.Parts, make([]api.Seg, 1)...) })
	spoilt(func(d *api.Deck) {
		for len(d.Parts) <= maxParts {
			d.Parts = append(d.Parts, api.Seg{Addr: ram})
		}
	})
	spoilt(func(d *api.Deck) { d.Worlds[0].Input = make([]byte, maxInput+1) })
	spoilt(func(d *api.Deck) { d.Worlds = make([]api.World, maxSteps+1) })
	good.Parts = nil
	for range maxParts {
		good.Parts = append(good.Parts, api.Seg{Addr: ram + 64})
	}
	if _, why := deck.Print(good); why != api.OK {
		t.Errorf("P14.2: a deck with %d parts: error %d", len(good.Parts), why)
	}
}

// withText is the deck with worlds behind, so that its text has just so many bytes.
func withText(t *testing.T, d api.Deck, size int) api.Deck {
	t.Helper()
	text, why := deck.Print(d)
	if why != api.OK {
		t.Fatalf("error %d", why)
	}
	const line, most = len("step input \"\"\n"), 50
	for missing := size - len(text); missing > 0; {
		own := min(missing-line, most)
		if left := missing - line - own; left > 0 && left <= line {
			own -= line
		}
		missing -= line + own
		letter := "ab"[len(d.Worlds)%2 : len(d.Worlds)%2+1] // no two that stand together are alike
		d.Worlds = append(d.Worlds, api.World{Input: []byte(strings.Repeat(letter, own))})
	}
	return d
}

// TestP14_2Text: a text of MaxText bytes is told, one of a byte more is not; what is not valid is told ahead of that.
func TestP14_2Text(t *testing.T) {
	d := plain(maxRam)
	for range 3 {
		d.Parts = append(d.Parts, api.Seg{Addr: ram, Size: maxRam, Data: make([]byte, 56000)})
	}
	for missing := range 20 {
		fits := withText(t, d, maxText-missing)
		text, why := deck.Print(fits)
		if len(text) != maxText-missing || why != api.OK {
			t.Errorf("P14.2: %d bytes, error %d, want %d bytes", len(text), why, maxText-missing)
		}
		cannotPrint(t, withText(t, d, maxText+1+missing), api.ErrText)
	}
	back(t, withText(t, d, maxText))
	spoilt := withText(t, d, maxText+1)
	spoilt.Ram = 12
	cannotPrint(t, spoilt, api.ErrSetting)
	many := plain(maxRam)
	for range maxParts {
		many.Parts = append(many.Parts, api.Seg{Addr: ram, Size: maxRam, Data: make([]byte, maxRam)})
	}
	cannotPrint(t, many, api.ErrText)
}

// modelWorld is the words of a world.
func modelWorld(w api.World) string {
	text := ""
	for i, is := range []bool{w.Tick, w.Ext, w.Soft} {
		if is {
			text += []string{" tick", " ext", " soft"}[i]
		}
	}
	if len(w.Input) > 0 {
		text += " input " + modelString(w.Input)
	}
	return text
}

// modelString is bytes as a string.
func modelString(b []byte) string {
	text := `"`
	for _, own := range b {
		switch {
		case strings.IndexByte(`"\`, own) >= 0:
			text += `\` + string(rune(own))
		case own == 10:
			text += `\n`
		case own < 32 || own > 126:
			text += fmt.Sprintf(`\x%02x`, own)
		default:
			text += string(rune(own))
		}
	}
	return text + `"`
}

// modelCpu is the Cpu's lines.
func modelCpu(c api.Cpu) string {
	text := fmt.Sprintf("pc %#x\nmode %c\n", c.Pc, "u--m"[c.Mode])
	if c.Waiting {
		text += "waiting\n"
	}
	for n, v := range c.X {
		if v != 0 {
			text += fmt.Sprintf("reg %s %#x\n", speak.Reg(n), v)
		}
	}
	for i, own := range csrsOf() {
		if v := *own.at(&c); v != 0 && !(i == 0 && v == uxl) {
			text += fmt.Sprintf("csr %s %#x\n", own.name, v)
		}
	}
	for i := range 16 {
		if c.Pmp.Cfg[i] != 0 || c.Pmp.Addr[i] != 0 {
			text += fmt.Sprintf("pmp %d %#x %#x\n", i, c.Pmp.Cfg[i], c.Pmp.Addr[i])
		}
	}
	if c.Res.Valid {
		text += fmt.Sprintf("res %#x %d\n", c.Res.Addr, c.Res.Size)
	}
	return text
}

// modelPrint is the text of a valid deck.
func modelPrint(d api.Deck) string {
	text := fmt.Sprintf("anvil 1\nram %d\n", d.Ram)
	if d.Mtime != 0 {
		text += fmt.Sprintf("mtime %#x\n", d.Mtime)
	}
	text += modelCpu(csr.Proper(d.Cpu))
	for _, p := range d.Parts {
		text += fmt.Sprintf("part %#x %d %s\n", p.Addr, p.Size, []string{"-", "r", "w", "rw", "x", "rx", "wx", "rwx"}[p.Flags])
		for i, b := range p.Data {
			if i%32 == 0 {
				text += "data "
			}
			text += fmt.Sprintf("%02x", b)
			if i%32 == 31 || i == len(p.Data)-1 {
				text += "\n"
			}
		}
	}
	run := 0
	for i, w := range d.Worlds {
		run++
		words := modelWorld(w)
		if i+1 < len(d.Worlds) && modelWorld(d.Worlds[i+1]) == words {
			continue
		}
		if run == 1 {
			text += "step" + words + "\n"
		} else {
			text += fmt.Sprintf("steps %d%s\n", run, words)
		}
		run = 0
	}
	return text
}

// sparse is mostly 0, and else anything.
func sparse(r *rand.Rand) uint64 {
	if r.IntN(3) > 0 {
		return 0
	}
	return r.Uint64() >> r.IntN(64)
}

// anyCpu is any Cpu, proper or not.
func anyCpu(r *rand.Rand) api.Cpu {
	c := api.Cpu{Pc: r.Uint64() >> r.IntN(64), Mode: r.IntN(4), Waiting: r.IntN(2) == 0}
	for n := range c.X {
		c.X[n] = sparse(r)
	}
	for _, own := range csrsOf() {
		*own.at(&c) = sparse(r)
	}
	for i := range 16 {
		c.Pmp.Cfg[i], c.Pmp.Addr[i] = byte(sparse(r)), sparse(r)
	}
	c.Res = api.Res{Valid: r.IntN(2) == 0, Addr: sparse(r) << r.IntN(4), Size: r.IntN(3) * 4}
	return c
}

// anyDeck is any valid deck.
func anyDeck(r *rand.Rand) api.Deck {
	d := api.Deck{Ram: 8 * (1 + r.IntN(20)), Cpu: anyCpu(r), Mtime: sparse(r)}
	for range r.IntN(5) {
		size := r.IntN(d.Ram + 1)
		d.Parts = append(d.Parts, api.Seg{Addr: ram + uint64(r.IntN(d.Ram-size+1)), Size: uint64(size), Flags: r.IntN(8), Data: bytesUpTo(r.IntN(size + 1))})
	}
	for range r.IntN(6) {
		w := api.World{Tick: r.IntN(2) == 0, Ext: r.IntN(3) == 0, Soft: r.IntN(3) == 0}
		if r.IntN(2) == 0 {
			w.Input = make([]byte, r.IntN(maxInput+1))
			for i := range w.Input {
				w.Input[i] = byte(r.Uint32())
			}
		}
		for range 1 + r.IntN(3) {
			d.Worlds = append(d.Worlds, w)
		}
	}
	return d
}

// TestP14_2Any: any deck's text against the model.
func TestP14_2Any(t *testing.T) {
	t.Parallel()
	r := random(4)
	for range 2000 {
		d := anyDeck(r)
		prints(t, d, modelPrint(d))
	}
}
