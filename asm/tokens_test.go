package asm_test

import (
	"strings"
	"testing"

	"anvil/api"
)

// most is the greatest number, over the least above it.
const (
	most = "18446744073709551615"
	over = "18446744073709551616"
)

func TestSection8_1Lines(t *testing.T) {
	gives(t, "")
	gives(t, "\n")
	gives(t, "\n\n\r\n \t\r\n")
	gives(t, ".byte 1", 1)
	gives(t, ".byte 1\n", 1)
	gives(t, ".byte 1\n\n.byte 2", 1, 2)
	gives(t, ".byte 1\r\n.byte 2\r\n", 1, 2)
	gives(t, "\r.byte\r1\r,\r2\r", 1, 2)
	gives(t, ".byte\t1\t,2", 1, 2)
	refused(t, "\n\n foo", 3, 1, api.ErrWord)
	refused(t, "\r\nfoo\r\n", 2, 0, api.ErrWord)
	refused(t, ".byte 1\v", 1, 7, api.ErrLine)
	refused(t, ".byte 1\f", 1, 7, api.ErrLine)
	refused(t, ".byte\u00a01", 1, 5, api.ErrLine)
	refused(t, "\x00", 1, 0, api.ErrLine)
	refused(t, "nop nop", 1, 0, api.ErrOperand)
}

func TestSection8_1Comments(t *testing.T) {
	gives(t, "# all of it\n.byte 1 # \"no text\n.byte 2# '\n.byte '#' # c\n.ascii \"#\" #\n#", 1, 2, '#', '#')
	gives(t, ".byte 3 # \xff \x00 ? <", 3)
	gives(t, ".byte 0x10# c\nx:# c\n.byte x - 0x80000000# c\n.byte (1)# )\n.ascii \"a\"# \"", 0x10, 1, 1, 'a')
	refused(t, ".byte 1 +# c", 1, 9, api.ErrExpr)
	refused(t, ".byte 1 + # c", 1, 9, api.ErrExpr)
	refused(t, ".byte \"# c", 1, 6, api.ErrLine)
	refused(t, ".byte '# c", 1, 6, api.ErrLine)
}

func TestSection8_1Names(t *testing.T) {
	for _, name := range []string{"x", "_", "..", ".L1", "größe", "a$1", "_0", "Ω", "x.y.z", "a0", "nop", ".byte", "ſ", "漢字", "A", "z$$"} {
		worth(t, name, 7, api.Sym{Name: name, Value: 7})
		if im := made(t, name+": .byte 1"); len(im.Syms) != 1 || im.Syms[0] != (api.Sym{Name: name, Value: api.RamBase}) {
			t.Errorf("%q: %+v", name, im)
		}
	}
	long := strings.Repeat("ö", api.MaxName)
	made(t, long+":\n.dword "+long)
	refused(t, "nop\nx: "+long+"é:", 2, 3, api.ErrName)
	refused(t, long+"é\xff", 1, 0, api.ErrName) // the first fault from the left
	refused(t, long+"\xff", 1, 80, api.ErrLine)
	refused(t, "nop # "+long+"é\n  "+long+"1", 2, 2, api.ErrName)
	refused(t, "$x:", 1, 0, api.ErrLine)
	refused(t, "x$: $", 1, 4, api.ErrLine)
	refused(t, "ab\xffcd:", 1, 2, api.ErrLine)
	refused(t, "ab?", 1, 2, api.ErrLine)
	refused(t, "nop é\xff", 1, 6, api.ErrLine)
	refused(t, "é\u0301:", 1, 2, api.ErrLine) // a mark over a letter is no letter
	refused(t, "x٣:", 1, 1, api.ErrLine)      // a digit, but none of 0 to 9
	refused(t, "\ufffd:", 1, 0, api.ErrLine)
	refused(t, "nop @", 1, 4, api.ErrLine)
	worthless(t, long+"x", 0, api.ErrName, api.Sym{Name: long + "x"})
}

func TestSection8_1Numbers(t *testing.T) {
	for text, want := range map[string]uint64{
		"0": 0, "7": 7, "007": 7, "010": 10, "0000000000000000000000000000000000000000": 0,
		most: 1<<64 - 1, "000" + most: 1<<64 - 1,
		"0x0": 0, "0x1F": 31, "0x1f": 31, "0x00000000000000000001f": 31, "0xabcdefABCDEF": 0xabcdefabcdef, "0xffffffffffffffff": 1<<64 - 1, "0x000ffffffffffffffff": 1<<64 - 1,
		"0b0": 0, "0b1": 1, "0b0000101": 5, "0b" + strings.Repeat("1", 64): 1<<64 - 1, "0b0" + strings.Repeat("1", 64): 1<<64 - 1,
		"0xb": 11, "0x0b": 11, "0x1b": 27,
	} {
		worth(t, text, want)
		worth(t, text+"+1", want+1)
	}
	for _, text := range []string{"0x", "1x", "1x1", "0X1", "0B1", "0b2", "0b12", "0b1b", "0b1f", "1B", "1F", "0xg", "1a", "1bb", "1bf", "0fb", "0x1g", "0xx1", "00x1", "00b1", "1e5", over + "x", "0x1" + strings.Repeat("0", 16) + "g", "1" + strings.Repeat("b", 30)} {
		worthless(t, text, 0, api.ErrExpr)
		refused(t, ".byte  "+text, 1, 7, api.ErrExpr)
	}
	for _, text := range []string{over, "000" + over, over + "b", over + "f", "0x10000000000000000", "0b1" + strings.Repeat("0", 64), strings.Repeat("9", 999)} {
		worthless(t, text, 0, api.ErrRange)
	}
	refused(t, ".byte "+over+"b", 1, 6, api.ErrRange)
	refused(t, over+":", 1, 0, api.ErrRange)
	refused(t, "nop\n 1: 1x 5 ?", 2, 4, api.ErrExpr)
	refused(t, ".byte 12é", 1, 8, api.ErrExpr) // é is a name behind the number
	refused(t, ".byte 12_a", 1, 8, api.ErrExpr)
	refused(t, ".byte 12.5", 1, 8, api.ErrExpr)
	refused(t, ".byte 12$", 1, 8, api.ErrLine)
	refused(t, ".byte 12\xff", 1, 8, api.ErrLine)
	// 0b, 00b and 1b alone are local references
	gives(t, "0: .byte 0b - 0x80000000\n1: .byte 1b - 0x80000000, 00b - 0x80000000, 0f - 0x80000000\n0:", 0, 1, 0, 4)
	gives(t, "18446744073709551615: .byte 1\n.word 18446744073709551615b, 0018446744073709551615b", 1, 0, 0, 0, 0x80, 0, 0, 0, 0x80)
}

func TestSection8_1Characters(t *testing.T) {
	for text, want := range map[string]uint64{
		`'a'`: 'a', `'"'`: '"', `'#'`: '#', `' '`: ' ', "'\t'": 9, "'\r'": 13, "'\x00'": 0, `'é'`: 0xe9, `'漢'`: 0x6f22, "'\U0010ffff'": 0x10ffff, "'\ufffd'": 0xfffd,
		`'\n'`: 10, `'\t'`: 9, `'\r'`: 13, `'\0'`: 0, `'\\'`: '\\', `'\''`: '\'', `'\"'`: '"', `'\x00'`: 0, `'\xff'`: 255, `'\xAb'`: 0xab, `'\x80'`: 0x80,
	} {
		worth(t, text, want)
		worth(t, text+" * 2", 2*want)
	}
	for _, text := range []string{`'`, `''`, `'''`, `'a`, `'ab'`, `'\'`, `'\`, `'\a'`, `'\x'`, `'\x1'`, `'\x1g'`, `'\x123'`, `'\x+1'`, `'\x_1'`, `'\x 1'`, `'\x-1'`, `'\N'`, `'\01'`, `'\X41'`, "'\xff'", "'a\xff'", "'\xc3'", "'\n'", `'a"`, `'\x4`} {
		worthless(t, text, 0, api.ErrLine)
		worthless(t, "1 + "+text, 4, api.ErrLine)
		if !strings.Contains(text, "\n") {
			refused(t, "nop\n.byte 1, "+text+" # c", 2, 9, api.ErrLine)
		}
	}
}

func TestSection8_1Texts(t *testing.T) {
	for text, want := range map[string]string{
		`""`: "", `"abc"`: "abc", `"it's # one, (two)"`: "it's # one, (two)", `"größe"`: "größe", "\"\t\r \x00\"": "\t\r \x00", "\"\ufffd\"": "\ufffd",
		`"\n\t\r\0\\\'\""`: "\n\t\r\x00\\'\"", `"\x41\xff\x80\xC3z"`: "A\xff\x80\xc3z", `"\x411"`: "A1", `"\01"`: "\x001", `"\\"`: `\`, `"\\\""`: `\"`,
	} {
		gives(t, ".ascii "+text, []byte(want)...)
		gives(t, ".asciz "+text, []byte(want+"\x00")...)
	}
	for _, text := range []string{`"`, `"abc`, `"\"`, `"\q"`, `"\x"`, `"\x4"`, `"\xg0"`, `"\x4g"`, `"abc\"`, `"abc\`, "\"a\xffb\"", "\"\xc3\"", "\"a\xff", `"\x4`} {
		refused(t, "\n.ascii  "+text, 2, 8, api.ErrLine)
		refused(t, text, 1, 0, api.ErrLine)
	}
	worthless(t, "\"\n\"", 0, api.ErrLine)
	worthless(t, `"a"`, 0, api.ErrExpr)
	refused(t, ".ascii \"a\" ?", 1, 11, api.ErrLine)
	refused(t, "? \"a", 1, 0, api.ErrLine)
}

func TestSection8_1Marks(t *testing.T) {
	nine := uint64(9)
	worth(t, "(1)+2-3*4/5%6&7|8^~9<<10>>11", 1|(8^(^nine<<10>>11)))
	for _, text := range []string{"<", ">", "< <", "<>", "1 <2", "1 > 2", "1 <<< 2", "1 >>> 2", "=", "!", "&&!", "[1]", "{", ";", "@", "?", "\\", "`", "$", "\"", "'"} {
		at := strings.IndexAny(text, "<>=![{;@?\\`$\"'")
		if strings.Contains(text, "<<<") || strings.Contains(text, ">>>") {
			at += 2
		}
		worthless(t, text, at, api.ErrLine)
		refused(t, "x: .byte "+text, 1, 9+at, api.ErrLine)
	}
	for _, text := range []string{":", ",", "1 : 2", "1, 2"} {
		worthless(t, text, strings.IndexAny(text, ":,"), api.ErrExpr)
	}
}
