package deck_test

import (
	"fmt"
	"strings"
	"testing"

	"anvil/api"
)

// TestSection14_1Ends: the last line may end with the text, and its end makes no line more.
func TestSection14_1Ends(t *testing.T) {
	reads(t, "anvil 1\nram 16", plain(16))
	reads(t, "anvil 1\nram 16\n", plain(16))
	reads(t, "anvil 1\nram 16\n\n\n", plain(16))
	d := plain(16)
	d.Worlds = make([]api.World, 1)
	reads(t, "anvil 1\nram 16\nstep", d)
	reads(t, "anvil 1\nram 16\n step ", d)
	reads(t, "anvil 1\nram 16\nstep\n", d)
	refused(t, "anvil 1\nram 16\nbla", 3, api.ErrLine)
	refused(t, "anvil 1\nram 16\nbla\n", 3, api.ErrLine)
	refused(t, "", 1, api.ErrLine)
	refused(t, "\n", 2, api.ErrLine)
	refused(t, " ", 2, api.ErrLine)
	refused(t, "#\n\n \n#", 5, api.ErrLine)
	refused(t, "anvil 1", 2, api.ErrLine)
	refused(t, "anvil 1\n", 2, api.ErrLine)
	refused(t, "anvil 1\n\n", 3, api.ErrLine)
	refused(t, "anvil 1\n# ram 16", 3, api.ErrLine)
}

// TestSection14_1Blanks: just two bytes are blanks; they may stand at a line's ends and must stand between two words.
func TestSection14_1Blanks(t *testing.T) {
	reads(t, " \t anvil\t \t1\t\n\tram \t 16 \t", plain(16))
	atSix := func(d *api.Deck) { d.Cpu.Pc = 6 }
	for b := range 256 {
		one := string([]byte{byte(b)})
		blank := b == 32 || b == 9
		if blank {
			says(t, atSix, "pc"+one+"6")
			says(t, atSix, "pc"+one+one+"6")
		} else {
			refused(t, behindHead("pc"+one+"6"), 3, api.ErrLine)
		}
		switch {
		case blank || b == 10:
			says(t, atSix, one+"pc 6")
			says(t, atSix, "pc 6"+one)
		case b == '#':
			says(t, func(*api.Deck) {}, one+"pc 6")
			refused(t, behindHead("pc 6"+one), 3, api.ErrLine)
		case b >= '0' && b <= '9':
			refused(t, behindHead(one+"pc 6"), 3, api.ErrLine)
			says(t, func(d *api.Deck) { d.Cpu.Pc = uint64(60+b-'0') &^ 1 }, "pc 6"+one)
		default:
			refused(t, behindHead(one+"pc 6"), 3, api.ErrLine)
			refused(t, behindHead("pc 6"+one), 3, api.ErrLine)
		}
	}
	refused(t, "anvil 1\r\nram 16\r\n", 1, api.ErrLine)
	refused(t, "anvil 1\nram 16\r\n", 2, api.ErrLine)
	refused(t, behindHead("\r"), 3, api.ErrLine)
	refused(t, behindHead("waiting\r"), 3, api.ErrLine)
	refused(t, behindHead("mode m\r"), 3, api.ErrLine)
}

// TestSection14_1Comments: comment lines may stand everywhere, and only as lines of their own.
func TestSection14_1Comments(t *testing.T) {
	for _, comment := range []string{"", " ", "\t \t", "#", " #", "\t# pc 8", "#pc 8", "# \"", "#\\", "##", "# \x00\r\x7f\xff\xc3", "#" + strings.Repeat("é", 400)} {
		want := plain(16)
		want.Cpu.Pc = 4
		want.Parts = []api.Seg{{Addr: ram, Size: 3, Flags: 1, Data: []byte{1, 2}}}
		want.Worlds = make([]api.World, 2)
		lines := []string{"anvil 1", "ram 16", "pc 4", "part 0x80000000 3 r", "data 01", "data 02", "step", "step"}
		reads(t, comment+"\n"+strings.Join(lines, "\n"+comment+"\n"+comment+"\n")+"\n"+comment, want)
	}
	for _, line := range []string{"pc 4 # x", "pc 4 #", "waiting #", "waiting#", "mode m#", "step #", "part 0x80000008 8 rx # x", "data 00 #"} {
		refused(t, behindHead(line), 3, api.ErrLine)
	}
}

// TestSection14_1Strings: which bytes a string has, as themselves and by an escape.
func TestSection14_1Strings(t *testing.T) {
	gives := func(text string, want ...byte) {
		t.Helper()
		says(t, func(d *api.Deck) { d.Worlds = []api.World{{Input: want}} }, `step input "`+text+`"`)
		says(t, func(d *api.Deck) {
			d.Worlds = []api.World{{Tick: true, Input: append([]byte("az"), append(want, '!')...)}}
		}, `step input "az`+text+`!" tick`)
	}
	none := func(text string) {
		t.Helper()
		refused(t, behindHead(`step input "`+text+`"`), 3, api.ErrLine)
		refused(t, behindHead(`step input "az`+text+`!"`), 3, api.ErrLine)
	}
	gives("")
	for b := range 256 {
		one := string([]byte{byte(b)})
		if b >= 32 && b <= 126 && b != '"' && b != '\\' {
			gives(one, byte(b))
		} else {
			none(one)
		}
		switch b {
		case '"', '\\':
			gives(`\`+one, byte(b))
		case 'n':
			gives(`\n`, 10)
		default:
			none(`\` + one)
		}
		for _, form := range []string{`\x%02x`, `\x%02X`} {
			gives(fmt.Sprintf(form, b), byte(b))
		}
		gives(fmt.Sprintf(`\x%02x\x%02X`, b, 255-b), byte(b), byte(255-b))
		if !strings.Contains("0123456789abcdefABCDEF", one) {
			none(`\x` + one)
			none(`\x` + one + "0")
			none(`\x0` + one)
		}
	}
	gives(`\xaB\xCd`, 0xab, 0xcd)
	gives(`\\n\\\"#`, '\\', 'n', '\\', '"', '#')
	gives(`\x41g`, 'A', 'g')
	gives(" \x20  ", 32, 32, 32, 32)
	none(`\x4`)
	none(`\x`)
	none(`\`)
	none("\t")
	none("é")
}

// TestSection14_1WhereStrings: a string begins where a word may, and behind it stands a blank or the line's end.
func TestSection14_1WhereStrings(t *testing.T) {
	one := func(d *api.Deck) { d.Worlds = []api.World{{Ext: true, Input: []byte("a b")}} }
	says(t, one, `step input "a b" ext`)
	says(t, one, "step\tinput\t\"a b\"\text")
	says(t, one, `step ext input "a b"`)
	says(t, one, `step ext input "a b" `)
	for _, line := range []string{
		`step input"a"`, `step input "a"ext`, `step ext"a"`, `step input "a""b"`, `step input ""a`, `step input "a" "b"`, `step input "a`, `step input a"`, `step input "`, `step input """`, `step input "a\"`,
		`"step"`, `"step" tick`, `step"`, `step "`, `"`, `""`, `"a"`, `" "`, `"#"`, `pc "4"`, `pc 4""`, `pc 4 ""`, `pc""4`, `""pc 4`, `waiting ""`, `waiting"`, `mode "m"`, `"pc" 4`, `steps "2"`,
	} {
		refused(t, behindHead(line), 3, api.ErrLine)
	}
	refused(t, joined(`"anvil" 1`, "ram 16"), 1, api.ErrLine)
	refused(t, joined(`anvil "1"`, "ram 16"), 1, api.ErrLine)
	refused(t, joined("anvil 1", `"ram" 16`), 2, api.ErrLine)
	refused(t, joined("anvil 1", `ram "16"`), 2, api.ErrLine)
}

// TestSection14_1Numbers: numbers with a sign and without, and at their ends.
func TestSection14_1Numbers(t *testing.T) {
	for text, want := range map[string]uint64{
		"0": 0, "-0": 0, "0x0": 0, "-0x0": 0, "7": 7, "007": 7, "0x07": 7, "-1": 1<<64 - 1, "-0x1": 1<<64 - 1, "0xaF": 0xaf,
		"18446744073709551615": 1<<64 - 1, "0xffffffffffffffff": 1<<64 - 1, "0xFFFFFFFFFFFFFFFF": 1<<64 - 1,
		"-9223372036854775808": 1 << 63, "-0x8000000000000000": 1 << 63, "-9223372036854775807": 1<<63 + 1,
		strings.Repeat("0", 900) + "9": 9, "0x" + strings.Repeat("0", 900) + "9": 9,
	} {
		says(t, func(d *api.Deck) { d.Mtime = want }, "mtime "+text)
		says(t, func(d *api.Deck) { d.Cpu.Pc = want &^ 1 }, "pc "+text)
		says(t, func(d *api.Deck) { d.Cpu.X[9] = want }, "reg s1 "+text)
		says(t, func(d *api.Deck) { d.Cpu.Mtval = want }, "csr mtval "+text)
		says(t, func(d *api.Deck) { d.Cpu.Pmp.Addr[3] = want & (1<<54 - 1) }, "pmp 3 0 "+text)
	}
	for _, text := range []string{
		"18446744073709551616", "0x10000000000000000", "-9223372036854775809", "-0x8000000000000001", "-18446744073709551615",
		"-", "--1", "+1", "0x", "-0x", "0X1", "0xg", "1f", "1_0", "1.", "1,", "0b1", "x1", "a", "1-", "-x", "٣", "1\x00", "\xff",
	} {
		for _, line := range []string{"mtime %s", "pc %s", "reg s1 %s", "csr mtval %s", "pmp 3 %s 0", "pmp 3 0 %s", "pmp %s 0 0", "res %s 8", "res 0 %s", "part %s 8 r", "part 0x80000000 %s r", "steps %s"} {
			refused(t, behindHead(fmt.Sprintf(line, text)), 3, api.ErrLine)
		}
		refused(t, joined("anvil 1", "ram "+text), 2, api.ErrLine)
	}
}

// TestSection14_1Counts: a count is a number without a sign, decimal or hex.
func TestSection14_1Counts(t *testing.T) {
	reads(t, "anvil 1\nram 0x0010", plain(16))
	reads(t, "anvil 1\nram 0016", plain(16))
	says(t, func(d *api.Deck) { d.Cpu.Pmp.Addr[15] = 1 }, "pmp 0xF 0 1")
	says(t, func(d *api.Deck) { d.Cpu.Pmp.Addr[0] = 1 }, "pmp 000 0 1")
	says(t, func(d *api.Deck) { d.Parts = []api.Seg{{Addr: ram, Size: 16}} }, "part 0x80000000 0x10 -")
	says(t, func(d *api.Deck) { d.Worlds = make([]api.World, 17) }, "steps 0x11")
	for _, sign := range []string{"-0", "-1", "-8", "-0x8", "-0x0"} {
		refused(t, joined("anvil 1", "ram "+sign), 2, api.ErrLine)
		refused(t, behindHead("pmp "+sign+" 0 0"), 3, api.ErrLine)
		refused(t, behindHead("part 0x80000000 "+sign+" r"), 3, api.ErrLine)
		refused(t, behindHead("steps "+sign), 3, api.ErrLine)
	}
}
