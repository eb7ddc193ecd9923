package gdb_test

import (
	"strings"
	"testing"

	"anvil/gdb"
)

// asked: each payload must have its answer, and change nothing.
func asked(t *testing.T, s *gdb.Stub, want string, payloads ...string) {
	t.Helper()
	for _, p := range payloads {
		stays(t, "17.3: "+p, s, func() { ask(t, s, p, want) })
	}
}

// TestSection17_3Fixed: the rows that ask nothing of the board.
func TestSection17_3Fixed(t *testing.T) {
	s := made(t, little())
	asked(t, s, "S05", "?")
	asked(t, s, "vCont;c;s", "vCont?")
	asked(t, s, "OK", "H", "Hg0", "Hc-1", "HH", "T", "T1", "Tx", "T\x00", "H#$}*", "Hk", "TD", "H"+strings.Repeat("\xff", maxPacket-1))
	asked(t, s, "PacketSize=3e8;QStartNoAckMode+", "qSupported", "qSupported:multiprocess+;swbreak+", "qSupportedx", "qSupported?", "qSupported"+strings.Repeat("a", maxPacket-10))
	asked(t, s, "QC1", "qC")
	asked(t, s, "m1", "qfThreadInfo")
	asked(t, s, "l", "qsThreadInfo")
	asked(t, s, "1", "qAttached")
}

// TestSection17_3Else: what is no command: the empty answer. What is a command as the whole payload alone is one of these with anything behind it, or ahead of it.
func TestSection17_3Else(t *testing.T) {
	s := made(t, little())
	asked(t, s, "", "", "h", "t", "q", "Q", "v", "vCont", "vCont;", "none", "!", "i", "S", "C", "C05", "S05", "d", "r", "R00", "b", "B", "A", "e", "E01", "+", "-", "$", "#", "\x03", "\x00", "\xff", " ", "0", "1",
		"qSupporte", "QSupported", "qsupported", "xqSupported", "vMustReplyEmpty", "vKill;1", "vContx", "qSymbol::", "qXfer:features:read:target.xml:0,100", "qOffsets", "QStartNoAckMod")
	for _, whole := range []string{"?", "g", "D", "k", "qC", "qfThreadInfo", "qsThreadInfo", "qAttached", "QStartNoAckMode", "vCont?", "vCont;s", "vCont;c", "vCont;s:1", "vCont;c:1"} {
		for _, behind := range []string{"0", " ", "x", "?", ";", "\x00", "1", ",", "\n"} {
			asked(t, s, "", whole+behind)
		}
		if whole[0] == 'v' || whole[0] == 'q' || whole[0] == 'Q' {
			asked(t, s, "", whole[:len(whole)-1]+"~", strings.ToUpper(whole), " "+whole)
		}
	}
	asked(t, s, "", "vCont;s:", "vCont;c:", "vCont;s:2", "vCont;c:0", "vCont;s:-1", "vCont;s:01", "vCont;S05", "vCont;t", "vCont;s;c", "vCont;c;s", "vCont;s:1;c", "vCont;s80000000", "vCont;;s", "vcont;s", "qAttached:1", "qC1")
}

// TestSection17_3Numbers: a hex number has 1 to 16 digits, small or capital, wherever one stands.
func TestSection17_3Numbers(t *testing.T) {
	s := made(t, little())
	ask(t, s, "Pa="+word(0xa5), "OK")
	a5 := word(0xa5)
	asked(t, s, a5, "pa", "pA", "p0a", "p0A", "p000000000000000a", "p000000000000000A")
	asked(t, s, "E01", "p", "p0000000000000000a", "p00000000000000000", "px", "pg", "p a", "pa ", "p0xa", "pa\x00", "p-1", "p+a", "p1_0", "p\uff11", "p,", "p=", "pa=", "pa,a", "p\n", "pa\n")
	asked(t, s, "E02", "pffffffffffffffff", "pFFFFFFFFFFFFFFFF", "p1000000000000000", "p8000000000000000")
	asked(t, s, "05", "m80000000,1", "m0000000080000000,0000000000000001", "m80000000,01")
	asked(t, s, "E01", "m00000000080000000,1", "m80000000,00000000000000001", "m,1", "m80000000,", "m,", "m", "m80000000", "m80000000,1,", "m80000000,1,1", "m80000000,1:", "m80000000:1", "m 80000000,1", "m80000000, 1", "m80000000,1 ", "m80000000,-1", "m-1,1", "mx,1", "m1,x", "m0x80000000,1", "m80000000;1", "m,,", "m80000000,,1")
	ask(t, s, "Z0,000000008000000A,000000000000000F", "OK")
	ask(t, s, "z0,8000000a,f", "OK")
	for _, stop := range []string{"", "0", "0,", "0,1", "0,1,", "0,,1", ",1,1", "0,1,1,", "0,1,1,1", "0,1,1;cond", "x,1,1", "a,1,1", "F,1,1", "00,1,1", "10,1,1", "-1,1,1", "0,x,1", "0,1,x", "0,10000000000000000,1", "0,1,00000000000000000", "0,1,10000000000000000", " 0,1,1", "0, 1,1", "0,1,1 ", "0;1;1", "9", "9,", "9,1", "9,x,1", "9,0,", "5,0,x", "\x00,1,1", "\xff,1,1", "/,1,1", ":,1,1", "\u0660,1,1"} {
		asked(t, s, "E01", "Z"+stop, "z"+stop)
	}
	for _, way := range []string{"s", "c"} {
		asked(t, s, "E01", way+"x", way+" ", way+"80000000 ", way+" 80000000", way+"0x80000000", way+"00000000080000000", way+"10000000000000000", way+"80000000,1", way+"-1", way+"\x00", way+"g", way+":1", way+";", way+"s", way+"cs")
		ask(t, s, way+"0000000080000004", map[string]string{"s": "S05", "c": "S02"}[way])
	}
}

// TestSection17_3First: what begins like a command with something behind it, and is not of its form, is E01, whatever else could be said of it.
func TestSection17_3First(t *testing.T) {
	s := made(t, little())
	asked(t, s, "E01", "G", "p", "P", "m", "M", "X", "Z", "z", "sx", "cx")
	asked(t, s, "E01", "m0,1f5x", "pffffx", "Pffff=00", "P21=0", "M0,1:", "M0,1:0", "M0,1:000", "M0,1f5:00", "X0,2:a", "X0,1:ab", "Z2,0,x", "Zx,0,9", "Z5,0,1 ", "z9,g,1")
	for i := range maxStops {
		ask(t, s, "Z0,"+strings.Repeat("1", i+1)+",0", "OK")
	}
	asked(t, s, "E01", "Z0,0", "Z2,0,", "Zx,0,0")
	asked(t, s, "E02", "Z0,0,0", "Z2,0,9")
	asked(t, s, "", "Z5,0,0", "Z9,0,9", "z5,0,0", "z9,1,0")
}
