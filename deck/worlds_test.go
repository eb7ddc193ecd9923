package deck_test

import (
	"fmt"
	"strings"
	"testing"

	"anvil/api"
)

// worlds is a change of a deck: these worlds.
func worlds(list ...api.World) func(d *api.Deck) {
	return func(d *api.Deck) { d.Worlds = list }
}

// TestP14_1Worlds: what a world has, in any order.
func TestP14_1Worlds(t *testing.T) {
	says(t, worlds(api.World{}), "step")
	for bits := range 16 {
		var words []string
		var w api.World
		if bits&1 != 0 {
			w.Tick = true
			words = append(words, "tick")
		}
		if bits&2 != 0 {
			w.Ext = true
			words = append(words, "ext")
		}
		if bits&4 != 0 {
			w.Soft = true
			words = append(words, "soft")
		}
		if bits&8 != 0 {
			w.Input = []byte("a b")
			words = append(words, `input "a b"`)
		}
		for _, order := range orders(words) {
			line := strings.Join(append([]string{""}, order...), "  ")
			says(t, worlds(w), "step"+line)
			says(t, worlds(w), "steps 1"+line)
			says(t, worlds(w, w, w), "\tsteps\t0x3"+line+"\t")
			for _, again := range order {
				refuses(t, api.ErrLine, "step"+line+" "+again)
				refuses(t, api.ErrLine, "steps 2 "+again+line)
			}
		}
	}
	says(t, worlds(api.World{Tick: true}), `step input "" tick`)
	says(t, worlds(api.World{Input: []byte("tick")}), `step input "tick"`)
	says(t, worlds(api.World{Tick: true}, api.World{}, api.World{Soft: true}, api.World{Soft: true}, api.World{}), "step tick", "step", "# x", "steps 2 soft", "", "step")
}

// orders is every order of words.
func orders(words []string) [][]string {
	if len(words) == 0 {
		return [][]string{nil}
	}
	var all [][]string
	for i, w := range words {
		rest := append(append([]string{}, words[:i]...), words[i+1:]...)
		for _, o := range orders(rest) {
			all = append(all, append([]string{w}, o...))
		}
	}
	return all
}

// TestP14_1WorldLines: what is no world's line.
func TestP14_1WorldLines(t *testing.T) {
	for _, words := range []string{
		"tick tick", "ext ext", "soft tick soft", `input "a" input "b"`, `input "" input ""`, "input", "input a", "input input", `input "a" "b"`, "tick input", "input tick", `"a"`, `"a" input`, `"tick"`, `input tick "a"`,
		"3 3", "Tick", "tick,", "ticks", "- tick", "int", "timer", "none", `input "a`, `input "a"b`, `input "a"tick`, `input"a"`, "\xff", "#", "tick #",
	} {
		refuses(t, api.ErrLine, "step "+words)
		refuses(t, api.ErrLine, "steps 2 "+words)
		refuses(t, api.ErrLine, "steps 0 "+words)
		refuses(t, api.ErrLine, "steps 4001 "+words)
		refuses(t, api.ErrLine, "steps "+words)
	}
	for _, line := range []string{"steps", "steps tick", "steps tick 2", "steps 2 2", `steps "2"`, "steps -1", "steps -0", "steps +1", "steps 1x", "steps 18446744073709551616", "step 1", "steps2", "Step", "STEPS 2"} {
		refuses(t, api.ErrLine, line)
		refuses(t, api.ErrLine, "step", line)
	}
}

// TestP14_1BehindWorlds: behind a world only worlds stand.
func TestP14_1BehindWorlds(t *testing.T) {
	for _, line := range []string{"mtime 0", "pc 0", "mode m", "waiting", "reg a0 0", "reg a9 0", "csr mie 0", "csr mip 0", "pmp 0 0 0", "pmp 16 0 0", "res 0 4", "res 0 1", "part 0x80000000 0 -", "part 0 0 -", "elf", "source", "data 00", "end", "ram 64"} {
		refuses(t, api.ErrLine, "step", line)
		refuses(t, api.ErrLine, "steps 3 tick", "# x", line)
		refuses(t, api.ErrLine, "part 0x80000000 8 -", "step", "", line)
	}
}

// TestP14_1Steps: how many worlds there may be, by single ones and by counts.
func TestP14_1Steps(t *testing.T) {
	count := func(want int, lines ...string) {
		t.Helper()
		if d := read(t, behindHead(lines...)); len(d.Worlds) != want {
			t.Errorf("P14.1: %d worlds, want %d", len(d.Worlds), want)
		}
	}
	count(1, "steps 1")
	count(maxSteps, "steps 4000 tick")
	count(maxSteps, "steps 3999", "step soft")
	count(maxSteps, "step", "steps 3998", "step")
	count(maxSteps, "steps 2000", "steps 2000")
	var single []string
	for range maxSteps {
		single = append(single, "step")
	}
	count(maxSteps, single...)
	refuses(t, api.ErrMany, append(single, "step")...)
	refuses(t, api.ErrMany, "steps 4001")
	refuses(t, api.ErrMany, "steps 4000", "step")
	refuses(t, api.ErrMany, "steps 4000", "#", "steps 1")
	refuses(t, api.ErrMany, "step", "steps 4000")
	refuses(t, api.ErrMany, "steps 3999", "steps 2")
	for _, n := range []string{"65536", "4294967296", "4294967297", "9223372036854775807", "9223372036854775808", "18446744073709551615", "0xffffffffffffffff"} {
		refuses(t, api.ErrMany, "steps "+n)
		refuses(t, api.ErrMany, "step", "steps "+n)
		refuses(t, api.ErrMany, "steps 4000", "steps "+n)
	}
	for _, n := range []string{"0", "00", "0x0"} {
		refuses(t, api.ErrSetting, "steps "+n)
		refuses(t, api.ErrSetting, "steps "+n+" tick")
		refuses(t, api.ErrSetting, "steps 4000", "steps "+n)
	}
}

// TestP14_1Input: how many bytes an input has, however they are written.
func TestP14_1Input(t *testing.T) {
	for _, size := range []int{1, 2, 63, maxInput} {
		b := bytesUpTo(size)
		escaped := ""
		for _, own := range b {
			escaped += fmt.Sprintf(`\x%02x`, own)
		}
		says(t, worlds(api.World{Input: b}), `step input "`+escaped+`"`)
		says(t, worlds(api.World{Input: []byte(strings.Repeat("a", size))}), `step input "`+strings.Repeat("a", size)+`"`)
	}
	for _, long := range []string{strings.Repeat("a", maxInput+1), strings.Repeat(`\n`, maxInput+1), strings.Repeat(`\x00`, maxInput+1), strings.Repeat("a", 900)} {
		refuses(t, api.ErrSetting, `step input "`+long+`"`)
		refuses(t, api.ErrSetting, `steps 2 tick input "`+long+`"`)
		refuses(t, api.ErrSetting, `steps 4001 input "`+long+`"`)
		refuses(t, api.ErrSetting, "steps 4000", `step input "`+long+`"`)
		refuses(t, api.ErrLine, `step input "`+long+`" input "a"`)
	}
}
