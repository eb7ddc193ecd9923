package deck_test

import (
	"fmt"
	"slices"
	"strings"
	"testing"

	"anvil/api"
)

// TestP14_1Flags: the letters of a part's rights stand in one order, each at most once.
func TestP14_1Flags(t *testing.T) {
	flags := map[string]int{"-": 0, "r": 1, "w": 2, "rw": 3, "x": 4, "rx": 5, "wx": 6, "rwx": 7}
	for text, want := range flags {
		says(t, func(d *api.Deck) { d.Parts = []api.Seg{{Addr: ram, Size: 8, Flags: want}} }, "part 0x80000000 8 "+text)
	}
	letters := []string{"", "r", "w", "x", "-", "R"}
	for _, a := range letters {
		for _, b := range letters {
			for _, c := range letters {
				text := a + b + c
				if _, is := flags[text]; !is && text != "" {
					refuses(t, api.ErrLine, "part 0x80000000 8 "+text)
				}
			}
		}
	}
	for _, text := range []string{"rwxr", "rrwx", "0", "5", "rx,", "r-x", "--", "\xff", `""`, `"rx"`, `"-"`} {
		refuses(t, api.ErrLine, "part 0x80000000 8 "+text)
	}
}

// TestP14_1Places: a part lies in RAM; a part of Size 0 may lie just behind it.
func TestP14_1Places(t *testing.T) {
	for _, size := range []int{8, 16, 64, maxRam} {
		head := []string{"anvil 1", fmt.Sprint("ram ", size)}
		lies := func(addr, own uint64) {
			t.Helper()
			want := plain(size)
			want.Parts = []api.Seg{{Addr: addr, Size: own, Flags: 4}}
			reads(t, joined(append(slices.Clone(head), fmt.Sprintf("part %#x %d x", addr, own))...), want)
		}
		liesNot := func(addr, own uint64) {
			t.Helper()
			refused(t, joined(append(slices.Clone(head), fmt.Sprintf("part %#x %d x", addr, own))...), 3, api.ErrSetting)
		}
		end := ram + uint64(size)
		for own := range uint64(9) {
			lies(ram, own)
			lies(end-own, own)
			liesNot(end-own+1, own)
			liesNot(ram-1, own)
			liesNot(0, own)
			liesNot(1<<64-1, own)
			liesNot(-own, own)
			liesNot(end+ram, own)
		}
		lies(ram, uint64(size))
		liesNot(ram+1, uint64(size))
		liesNot(ram, uint64(size)+1)
		liesNot(end, 1)
		liesNot(ram, 1<<32)
		liesNot(ram, 1<<63)
		liesNot(ram, 1<<64-1)
		liesNot(ram+8, 1<<64-8)
		liesNot(1<<64-1, 1<<64-1)
	}
	refuses(t, api.ErrSetting, "part -1 1 r")
	refuses(t, api.ErrSetting, "part -0x80000000 0 r")
	says(t, func(d *api.Deck) { d.Parts = []api.Seg{{Addr: ram, Size: 2}} }, "part 2147483648 0x2 -")
}

// TestP14_1Data: data lines are added up, with comment lines between, up to the part's Size.
func TestP14_1Data(t *testing.T) {
	part := func(size uint64, data ...byte) func(d *api.Deck) {
		return func(d *api.Deck) { d.Parts = []api.Seg{{Addr: ram, Size: size, Flags: 1, Data: data}} }
	}
	says(t, part(4), "part 0x80000000 4 r")
	says(t, part(4, 0), "part 0x80000000 4 r", "data 00")
	says(t, part(4, 0x12, 0xab, 0xcd, 0xef), "part 0x80000000 4 r", "  data\t12aB  ", "# x", "", "\t#", "data CDeF")
	says(t, part(5, 0, 1, 2, 3, 4), "part 0x80000000 5 r", "data 00", "data 0102", "data 0304")
	for _, size := range []int{1, 2, 31, 32, 33, 64} {
		b := bytesUpTo(size)
		for _, each := range []int{1, 7, 32, 64} {
			line := fmt.Sprintf("part 0x80000000 %d r", size)
			says(t, part(uint64(size), b...), append([]string{line}, dataLines(b, each)...)...)
			more := append([]string{line}, dataLines(b, each)...)
			refuses(t, api.ErrSetting, append(more, "data 00")...)
		}
		refuses(t, api.ErrSetting, append([]string{fmt.Sprintf("part 0x80000000 %d r", size-1)}, dataLines(b, 64)...)...)
	}
	refuses(t, api.ErrSetting, "part 0x80000000 0 r", "data 00")
	refuses(t, api.ErrSetting, "part 0x80000000 1 -", "data 0102")
	refuses(t, api.ErrSetting, "part 0x80000000 4 -", "data 01", "# x", "data 0203040506")
	b := bytesUpTo((maxLine - len("data ")) / 2)
	want := plain(maxRam)
	want.Parts = []api.Seg{{Addr: ram, Size: maxRam, Flags: 6, Data: b}}
	reads(t, joined("anvil 1", "ram 65536", "part 0x80000000 65536 wx", dataLines(b, len(b))[0]), want)
}

// TestP14_1DataLines: what is no data line, with a part and with an elf ahead of it.
func TestP14_1DataLines(t *testing.T) {
	for _, line := range []string{"data", "data ", "data 0", "data 000", "data 0x00", "data 00 00", "data 0g", "data g0", "data -0", "data +1", "data _0", "data 0_", "data 00,", "data 00 #", `data "00"`, `data ""`, `data"00"`, `data 00"`, `data "00`, "data \xff\xff", "data é", "data 1\x00", "data 00 \"\"", "data 0\r"} {
		refuses(t, api.ErrLine, "part 0x80000000 64 r", line)
		refuses(t, api.ErrLine, "part 0x80000000 64 r", "data 00", "# x", line)
		refuses(t, api.ErrLine, "part 0x80000000 0 r", line)
		refuses(t, api.ErrLine, "elf", line)
		refuses(t, api.ErrLine, "elf", "data 00", "", line)
		refuses(t, api.ErrLine, line)
	}
	for digit := range 256 {
		one := string([]byte{byte(digit)})
		for at, text := range []string{"0" + one, one + "0"} {
			n := strings.Index("0123456789abcdef", strings.ToLower(one))
			switch {
			case n >= 0:
				value := byte(n)
				if at == 1 {
					value *= 16
				}
				says(t, func(d *api.Deck) { d.Parts = []api.Seg{{Addr: ram, Size: 1, Data: []byte{value}}} }, "part 0x80000000 1 -", "data "+text)
			case digit != 32 && digit != 9:
				refused(t, behindHead("part 0x80000000 64 r", "data "+text), 4, api.ErrLine)
			}
		}
	}
}

// TestP14_1WhereData: data stands only behind a part, an elf, or other data.
func TestP14_1WhereData(t *testing.T) {
	refuses(t, api.ErrLine, "data 00")
	refused(t, joined("anvil 1", "data 00"), 2, api.ErrLine)
	for _, line := range []string{"mtime 0", "pc 0", "mode m", "waiting", "reg a0 0", "csr mie 0", "pmp 0 0 0", "res 0 4", "step", "steps 2"} {
		refuses(t, api.ErrLine, line, "data 00")
		refuses(t, api.ErrLine, "part 0x80000000 8 r", line, "data 00")
		refuses(t, api.ErrLine, "part 0x80000000 8 r", "data 00", "#", line, "", "data 00")
	}
	refuses(t, api.ErrLine, "source", "end", "data 00")
	refuses(t, api.ErrLine, "part 0x80000000 8 r", "source", "end", "data 00")
	elf := append([]string{"part 0x80000000 8 r"}, asElf(file(t, ram))...)
	refuses(t, api.ErrLine, append(slices.Clone(elf), "pc 0", "data 00")...)
	says(t, func(d *api.Deck) {
		d.Parts = []api.Seg{{Addr: ram, Size: 8, Flags: 1}, {Addr: ram + 8, Size: 8, Flags: 2, Data: []byte{9}}}
	}, append(slices.Clone(elf), "part 0x80000008 8 w", "data 09")...)
}

// TestP14_1Parts: parts are added, also where they meet, up to MaxParts.
func TestP14_1Parts(t *testing.T) {
	says(t, func(d *api.Deck) {
		d.Parts = []api.Seg{{Addr: ram + 8, Size: 8, Flags: 1, Data: []byte{1}}, {Addr: ram, Size: 64, Flags: 2}, {Addr: ram + 8, Size: 8, Flags: 1, Data: []byte{2, 3}}}
		d.Cpu.Pc = 2
	}, "part 0x80000008 8 r", "data 01", "part 0x80000000 64 w", "pc 2", "part 0x80000008 8 r", "data 02", "data 03")
	var lines []string
	want := plain(64)
	for i := range maxParts {
		lines = append(lines, fmt.Sprintf("part %d 1 x", ram+i), fmt.Sprintf("data %02x", i))
		want.Parts = append(want.Parts, api.Seg{Addr: ram + uint64(i), Size: 1, Flags: 4, Data: []byte{byte(i)}})
	}
	reads(t, behindHead(lines...), want)
	refuses(t, api.ErrMany, append(slices.Clone(lines), "part 0x80000000 0 -")...)
	refuses(t, api.ErrMany, append(slices.Clone(lines), "# x", "pc 0", "part 0x80000000 1 r")...)
	refuses(t, api.ErrSetting, append(slices.Clone(lines), "part 0x80000000 65 r")...)
	refuses(t, api.ErrLine, append(slices.Clone(lines), "part 0x80000000 65 q")...)
}
