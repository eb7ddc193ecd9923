package gdb_test

import (
	"fmt"
	"strings"
	"testing"

	"anvil/gdb"
)

// state is the packets of a stub with the power on that is asked for its state.
const asks, state = "$?#3f", "$S05#b8"

// hushed is a stub that acknowledges no more.
func hushed(t *testing.T) *gdb.Stub {
	t.Helper()
	s := made(t, little())
	fed(t, s, "$QStartNoAckMode#b0", "+$OK#9a")
	return s
}

// TestP17_4Between: outside packets every byte but $ and - is let go.
func TestP17_4Between(t *testing.T) {
	for _, s := range []*gdb.Stub{made(t, little()), hushed(t)} {
		for c := range 256 {
			if c != '$' && c != '-' {
				stays(t, "P17.4", s, func() { fed(t, s, string([]byte{byte(c)}), "") })
			}
		}
	}
	s := made(t, little())
	fed(t, s, "+++\x03#3f?#3f", "")
	fed(t, s, "+"+asks+"+"+asks+"x", "+"+state+"+"+state)
	fed(t, s, "", "")
	fed(t, s, "\x03"+asks, "+"+state)
}

// TestP17_4Again: - has the last packet sent once more: the packet alone, as often as it is asked for.
func TestP17_4Again(t *testing.T) {
	s := made(t, little())
	fed(t, s, "---", "")
	fed(t, s, "$?#00-", "-")
	fed(t, s, asks, "+"+state)
	fed(t, s, "-", state)
	fed(t, s, "--", state+state)
	fed(t, s, packet("qC")+"-", "+"+packet("QC1")+packet("QC1"))
	fed(t, s, "$?#00", "-")
	fed(t, s, "-", packet("QC1"))
	fed(t, s, packet("none")+"-", "+$#00$#00")
	fed(t, s, "$}#7d", "+"+packet("E03"))
	fed(t, s, "+-+", packet("E03"))
	ask(t, s, "s", "S05")
	stays(t, "P17.4: what is sent again is not done again", s, func() { fed(t, s, "--", state+state) })
}

// TestP17_4Within: in a packet a - is a byte like others, and behind the # everything is a digit.
func TestP17_4Within(t *testing.T) {
	s := made(t, little())
	fed(t, s, asks, "+"+state)
	fed(t, s, packet("-"), "+$#00")
	fed(t, s, packet("H-+\x03"), "+$OK#9a")
	fed(t, s, "$?#--", "-")
	fed(t, s, "-", "$OK#9a")
	fed(t, s, "$?#$?", "-")
	fed(t, s, "#3f", "")
	fed(t, s, "$?##3", "-")
	fed(t, s, "f", "")
	fed(t, s, "$?#3$", "-")
	fed(t, s, "?#3f", "")
	fed(t, s, "$?#3-", "-")
	fed(t, s, asks, "+"+state)
}

// TestP17_4Anew: a $ in a packet begins it anew: nothing of it counts, not its sum, not its length, not half a pair.
func TestP17_4Anew(t *testing.T) {
	s := made(t, little())
	for _, ahead := range []string{"$", "$g", "$$$$", "$s$s", "$}", "$a}", "$" + strings.Repeat("a", 3*maxPacket), "$#00$k"} {
		stays(t, "P17.4", s, func() {
			want := "+" + state
			if strings.HasPrefix(ahead, "$#00") {
				want = "+$#00" + want
			}
			fed(t, s, ahead+asks, want)
		})
	}
	fed(t, s, "$Ha}$H}$#00", "+$#00") // what stands behind a } begins the packet anew all the same: its body is empty
	fed(t, s, "$Ha}$H}$#6c", "-")
}

// TestP17_4Sum: what a packet is worth whose digits are another sum, or none at all.
func TestP17_4Sum(t *testing.T) {
	loud, quiet := made(t, little()), hushed(t)
	for first := range 256 {
		for _, second := range "0f3FgGz/:@`_+ #$-" {
			digits := string([]byte{byte(first), byte(second)})
			told, answer := "-", ""
			if strings.EqualFold(digits, "3f") {
				told, answer = "+", state
			}
			fed(t, loud, "$?#"+digits, told+answer)
			fed(t, quiet, "$?#"+digits, answer)
		}
	}
	for sum := range 256 {
		want := "-"
		if sum == 0x73 {
			continue
		}
		stays(t, "P17.4: a step with another sum", loud, func() { fed(t, loud, fmt.Sprintf("$s#%02x", sum), want) })
		stays(t, "P17.4: a step with another sum", quiet, func() { fed(t, quiet, fmt.Sprintf("$s#%02X", sum), "") })
	}
	fed(t, loud, "$zz#F4", "+"+packet("E01"))
	fed(t, loud, "$\xff\xff\xff#fd", "+$#00")
	fed(t, loud, "$\xff\xff\xff#fD", "+$#00")
}

// TestP17_4Body: what a body stands for is what counts, and one that stands for none, or for too much, is E03.
func TestP17_4Body(t *testing.T) {
	for _, s := range []*gdb.Stub{made(t, little()), hushed(t)} {
		plus := string(s.Feed([]byte("$?#3f")))
		plus = strings.TrimSuffix(plus, state)
		body := func(body, want string) {
			t.Helper()
			fed(t, s, framed(body), plus+packet(want))
		}
		body("}\x1f", "S05")
		body("}Q}c", "QC1")
		body("q}c", "QC1")
		body("}", "E03")
		body("?}", "E03")
		body("s}}}", "E03")
		body("}}", "")
		body("H}}}}", "OK")
		body("H}", "E03")
		for _, of := range []string{"a", "}A", "}}", "*"} {
			body("H"+strings.Repeat(of, maxPacket-1), "OK")
			body("H"+strings.Repeat(of, maxPacket), "E03")
			body("H"+strings.Repeat(of, maxPacket-1)+"}", "E03")
			body("H"+strings.Repeat(of, maxPacket)+"}", "E03")
			body("H"+strings.Repeat(of, 20*maxPacket), "E03")
		}
		body(strings.Repeat("k", 1<<20), "E03")
		stays(t, "P17.4: E03", s, func() { body("s"+strings.Repeat("0", maxPacket), "E03") })
		body("s"+strings.Repeat("0", maxPacket-1), "E01")
		long := wrong(framed("H" + strings.Repeat("a", 2*maxPacket)))
		fed(t, s, long, strings.ReplaceAll(plus, "+", "-"))
		fed(t, s, asks, plus+state)
	}
}

// TestP17_4Hush: QStartNoAckMode has its + and its answer, and then there is no more +, no - and nothing sent again.
func TestP17_4Hush(t *testing.T) {
	s := made(t, little())
	fed(t, s, asks, "+"+state)
	fed(t, s, packet("QStartNoAckMode")+"-"+asks+"-"+"$?#00"+packet("QStartNoAckMode")+"-", "+$OK#9a"+state+"$OK#9a")
	fed(t, s, packet("none"), "$#00")
	fed(t, s, "$}#7d", packet("E03"))
	fed(t, s, "$?#zz-", "")
	fed(t, s, packet("QStartNoAckMod"), "$#00")
	fed(t, s, packet("s"), state)
	stands(t, s, 1, ram+2)
	s = made(t, little())
	fed(t, s, packet("QStartNoAckMode;"), "+$#00")
	fed(t, s, wrong(packet("QStartNoAckMode")), "-")
	fed(t, s, asks, "+"+state)
}

// TestP17_4Gone: behind D and k nothing is sent or done, for good, in the same Feed and in later ones.
func TestP17_4Gone(t *testing.T) {
	for _, how := range []struct{ ask, loud, quiet string }{{"D", "+$OK#9a", "$OK#9a"}, {"k", "+", ""}} {
		for _, behind := range []string{"", "-", asks, packet("s") + packet("c") + "-", "$?#00", packet("QStartNoAckMode"), packet(how.ask)} {
			for _, hush := range []bool{false, true} {
				s, want := made(t, little()), how.loud
				if hush {
					s, want = hushed(t), how.quiet
				}
				s.Feed([]byte(packet("s")))
				stays(t, "P17.4: gone", s, func() {
					fed(t, s, packet(how.ask)+behind, want)
					fed(t, s, behind+"x$", "")
					fed(t, s, asks+packet("s")+"-", "")
					fed(t, s, packet("G"+strings.Repeat("1", 528))+packet("M80000000,1:ff"), "")
				})
			}
		}
	}
	s := made(t, little())
	for _, almost := range []string{"D1", "D;", "k1", "kk", "DD", "d", "K"} {
		ask(t, s, almost, "")
	}
	fed(t, s, wrong(packet("k"))+wrong(packet("D")), "--")
	ask(t, s, "?", "S05")
}

// TestP17_4Many: far more replies in one Feed than wait anywhere: all of them, in their order.
func TestP17_4Many(t *testing.T) {
	for _, n := range []int{7, 8, 9, 15, 16, 17, 100, 5000} {
		s := made(t, little())
		in, want := "", ""
		for i := range n {
			in += packet(fmt.Sprintf("Pa=%s", word(uint64(i)))) + packet("pa") + "-" + "$#ff"
			want += "+$OK#9a" + "+" + packet(word(uint64(i))) + packet(word(uint64(i))) + "-"
		}
		fed(t, s, in, want)
	}
}
