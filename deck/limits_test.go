package deck_test

import (
	"slices"
	"strings"
	"testing"

	"anvil/api"
)

// TestP14_1Text: a text of MaxText bytes is read, one of a byte more is refused ahead of all else.
func TestP14_1Text(t *testing.T) {
	for _, text := range []string{behindHead(), behindHead("step", "bla"), "", strings.Repeat("x", maxText-1) + "\n", strings.Repeat("\n", maxText-1)} {
		refused(t, filled(text, maxText)+"\n", 0, api.ErrText)
		refused(t, filled(text, maxText)+"x", 0, api.ErrText)
		refused(t, filled(text, maxText+1000), 0, api.ErrText)
	}
	full := filled(behindHead(), maxText)
	if len(full) != maxText {
		t.Fatalf("the text has %d bytes", len(full))
	}
	reads(t, full, plain(64))
	reads(t, full[:maxText-1], plain(64))
	refused(t, strings.Repeat("#", maxText), 1, api.ErrLong)
	refused(t, strings.Repeat("\n", maxText), maxText+1, api.ErrLine)
	refused(t, filled(behindHead("bla"), maxText), 3, api.ErrLine)
}

// TestP14_1Long: a line of MaxLine bytes is read, one of a byte more is refused ahead of all else of it, whatever the line is.
func TestP14_1Long(t *testing.T) {
	wide := func(line string, size int) string { return line + strings.Repeat(" ", size-len(line)) }
	for _, line := range []string{"", "#", "# x", "pc 0x80000000", "mode m"} {
		reads(t, behindHead(wide(line, maxLine)), plain(64))
		reads(t, strings.TrimSuffix(behindHead(wide(line, maxLine)), "\n"), plain(64))
		refuses(t, api.ErrLong, wide(line, maxLine+1))
		refused(t, strings.TrimSuffix(behindHead(wide(line, maxLine+1)), "\n"), 3, api.ErrLong)
		refuses(t, api.ErrLong, strings.Repeat(" ", maxLine+1-len(line))+line)
	}
	reads(t, joined(wide("anvil 1", maxLine), wide("ram 64", maxLine)), plain(64))
	refused(t, joined(wide("anvil 1", maxLine+1), "ram 64"), 1, api.ErrLong)
	refused(t, joined("anvil 1", wide("ram 64", maxLine+1)), 2, api.ErrLong)
	refused(t, joined(wide("#", maxLine+1), "anvil 1", "ram 64"), 1, api.ErrLong)
	refused(t, joined(wide("bla", maxLine+1), "ram 64"), 1, api.ErrLong)
	for _, line := range []string{"bla", "pc x", `"`, "reg a9 0", "csr mip 0", "pmp 16 0 0", "part 0 0 -", "steps 0", "steps 4001", "data 0", "\xff"} {
		refuses(t, api.ErrLong, wide(line, maxLine+1))
		refuses(t, api.ErrLong, "step", wide(line, maxLine+1))
	}
	digits := strings.Repeat("0", maxLine-len("pc ")-1)
	says(t, func(d *api.Deck) { d.Cpu.Pc = 8 }, "pc "+digits+"8")
	refuses(t, api.ErrLong, "pc "+digits+"08")
	refuses(t, api.ErrLong, "part 0x80000000 64 r", wide("data 00", maxLine+1))
	refuses(t, api.ErrLong, "part 0x80000000 64 r", "data 00", wide("#", maxLine+1))
	refuses(t, api.ErrLong, "step", wide("", maxLine+1))
}

// TestP14_1LongSource: a source's lines are bound too, and so is its end; that is found ahead of the source's own faults.
func TestP14_1LongSource(t *testing.T) {
	wide := func(line string, size int) string { return line + strings.Repeat(" ", size-len(line)) }
	says(t, func(d *api.Deck) { d.Parts = []api.Seg{{Addr: ram, Size: 4, Flags: 5, Data: []byte{0x13, 0, 0, 0}}} },
		wide("source", maxLine), wide("#", maxLine), wide("nop", maxLine), wide("end", maxLine))
	refuses(t, api.ErrLong, wide("source", maxLine+1))
	refuses(t, api.ErrLong, "source", wide("#", maxLine+1))
	refuses(t, api.ErrLong, "source", "nop", wide("nop", maxLine+1))
	refuses(t, api.ErrLong, "source", "nop", wide("end", maxLine+1))
	refused(t, behindHead("source", "bla bla", wide("nop", maxLine+1), "end"), 5, api.ErrLong)
	refused(t, behindHead("source", "bla bla", wide("end", maxLine+1), "end"), 5, api.ErrLong)
	refused(t, behindHead("source", wide("#", maxLine+1)), 4, api.ErrLong)
	refused(t, behindHead("source", "bla bla", "end", wide("#", maxLine+1)), 4, api.ErrWord)
}

// TestP14_1Order: of two faults of one line the first in the document's order is told.
func TestP14_1Order(t *testing.T) {
	long := strings.Repeat(" ", maxLine)
	for _, c := range []struct {
		line string
		why  api.Errno
	}{
		{"pmp 16 x 0", api.ErrLine},
		{"pmp 16 0 0 0", api.ErrLine},
		{"reg a9 -", api.ErrLine},
		{"reg a9 5", api.ErrName},
		{"csr mip x", api.ErrLine},
		{"csr mip 5", api.ErrName},
		{"res 0 2 2", api.ErrLine},
		{"res x 2", api.ErrLine},
		{"part 0 99 q", api.ErrLine},
		{"part 0 99 r r", api.ErrLine},
		{"part x 99 r", api.ErrLine},
		{"part 0 -99 r", api.ErrLine},
		{"steps 0 tick tick", api.ErrLine},
		{"steps 4001 bla", api.ErrLine},
		{"data 0", api.ErrLine},
		{"pmp 16 0 0" + long, api.ErrLong},
		{"reg a9 5" + long, api.ErrLong},
	} {
		refuses(t, c.why, c.line)
	}
	var full []string
	for range maxParts {
		full = append(full, "part 0x80000000 1 r")
	}
	refuses(t, api.ErrSetting, append(slices.Clone(full), "part 0x80000000 99 r")...)
	refuses(t, api.ErrMany, append(slices.Clone(full), "part 0x80000000 9 r")...)
	refuses(t, api.ErrLine, append(slices.Clone(full), "data 00000")...)
	refuses(t, api.ErrSetting, append(slices.Clone(full), "data 0000")...)
}

// TestP14_1FirstLine: of two lines at fault the first one is told, whatever the faults are.
func TestP14_1FirstLine(t *testing.T) {
	faults := []struct {
		line string
		why  api.Errno
	}{
		{"bla", api.ErrLine}, {"reg a9 5", api.ErrName}, {"pmp 16 0 0", api.ErrSetting}, {"steps 4001", api.ErrMany}, {"#" + strings.Repeat("#", maxLine), api.ErrLong},
	}
	for _, a := range faults {
		for _, b := range faults {
			refused(t, behindHead(a.line, b.line), 3, a.why)
			refused(t, behindHead("# x", "mode u", a.line, "", b.line), 5, a.why)
			first := api.ErrLine
			if a.why == api.ErrLong {
				first = api.ErrLong
			}
			refused(t, joined(a.line, b.line), 1, first)
		}
		refused(t, behindHead(a.line, "source"), 3, a.why)
		refused(t, behindHead(a.line, "elf", "data 00"), 3, a.why)
		refused(t, behindHead("source", "bla", "end", a.line), 4, api.ErrWord)
		if a.why == api.ErrLong { // a comment line goes on with the elf
			refused(t, behindHead("elf", "data 7f46", a.line), 5, api.ErrLong)
		} else {
			refusedAt(t, behindHead("elf", "data 7f46", a.line), 3, 1, api.ErrMagic)
		}
	}
}
