package gdb_test

import (
	"bytes"
	"encoding/hex"
	"fmt"
	"strings"
	"testing"

	"anvil/api"
)

// painted is a deck of so much RAM with something of its own in each byte.
func painted(size int) api.Deck {
	d := bare(size)
	b := make([]byte, size)
	for i := range b {
		b[i] = byte(i*7 + i/256 + 1)
	}
	d.Parts = []api.Seg{{Addr: ram, Size: uint64(size), Data: b}}
	return d
}

// TestSection17_3Memory: m tells RAM's bytes, and RAM's alone, at each edge.
func TestSection17_3Memory(t *testing.T) {
	const size = 24
	s := made(t, painted(size))
	cells := s.Whole().Bus.Ram
	for at := uint64(ram - 3); at < ram+size+4; at++ {
		for n := range uint64(size + 5) {
			want := "E02"
			if n == 0 {
				want = ""
			} else if at >= ram && at+n <= ram+size {
				want = hex.EncodeToString(cells[at-ram : at-ram+n])
			}
			ask(t, s, fmt.Sprintf("m%x,%X", at, n), want)
		}
	}
	holds(t, "17.3: m", s, made(t, painted(size)).Whole(), 0)
	asked(t, s, "", "m0,0", "mffffffffffffffff,0", "m80000018,0", "m10000000,0", "m7fffffff,0000000000000000")
	asked(t, s, "E02", "m0,1", "mffffffffffffffff,1", "mffffffffffffffff,2", "mffffffff80000000,1", "m180000000,1", "m7fffffff,2", "m80000000,ffffffffffffffff", "m80000000,8000000000000000", "m80000001,ffffffffffffffff", "m80000000,100000001", "m80000000,1000000000000001", "m0,ffffffffffffffff", "mffffffff,ffffffff")
	asked(t, s, "E02", "m100000,4", "m2000000,4", "m2004000,8", "m200bff8,8", "m10000000,1", "m10000005,1")
}

// TestSection17_3MemoryMost: MaxPacket / 2 bytes fill a packet; one more is refused, be it RAM or not.
func TestSection17_3MemoryMost(t *testing.T) {
	s := made(t, painted(maxRam))
	cells := s.Whole().Bus.Ram
	for _, at := range []int{0, 1, 255, 777, maxRam - 500} {
		asked(t, s, hex.EncodeToString(cells[at:at+500]), fmt.Sprintf("m%x,1f4", ram+at))
		asked(t, s, "E02", fmt.Sprintf("m%x,1f5", ram+at))
	}
	asked(t, s, "E02", "m80000000,1f5", "m80000000,3e8", "m80000000,10000", "m80000000,100000000000001", fmt.Sprintf("m%x,1f4", ram+maxRam-499), "m0,1f5", "m7fffffff,1f4")
	asked(t, s, hex.EncodeToString(cells[maxRam-1:]), "m8000ffff,1")
	asked(t, s, "E02", "m80010000,1")
	small := made(t, painted(8))
	asked(t, small, "0108"+"0f161d242b32", "m80000000,8")
	asked(t, small, "E02", "m80000000,9", "m80000000,1f4", "m80000000,1f5")
}

// TestSection17_3Put: M and X put bytes into RAM, and nowhere else, at each edge.
func TestSection17_3Put(t *testing.T) {
	const size = 24
	b := []byte("\x00\xff#$}*:,=\x9axyz\x80\x7f\n\r\t\x03+-\x20\x22\x01Z\xa5\xee\x5b")
	for at := uint64(ram - 3); at < ram+size+4; at++ {
		for n := range uint64(size + 4) {
			for _, payload := range []string{
				fmt.Sprintf("M%x,%x:%x", at, n, b[:n]), fmt.Sprintf("M%016X,%016X:%X", at, n, b[:n]), fmt.Sprintf("X%x,%x:%s", at, n, b[:n]), fmt.Sprintf("X0%X,0%X:%s", at, n, b[:n]),
			} {
				s := made(t, painted(size))
				want, answer := s.Whole(), "E02"
				if n == 0 || at >= ram && at+n <= ram+size {
					answer = "OK"
				}
				if n > 0 && answer == "OK" {
					copy(want.Bus.Ram[at-ram:], b[:n])
				}
				ask(t, s, payload, answer)
				holds(t, "17.3: "+payload, s, want, 0)
			}
		}
	}
}

// TestSection17_3PutNowhere: no device is put to, no run wraps round.
func TestSection17_3PutNowhere(t *testing.T) {
	s := made(t, painted(64))
	for _, at := range []string{"0", "100000", "2000000", "2004000", "200bff8", "10000000", "7fffffff", "80000040", "ffffffffffffffff", "180000000", "ffffffff80000000", "fffffffffffffffe"} {
		asked(t, s, "E02", "M"+at+",4:33330000", "X"+at+",4:3333", "M"+at+",1:ff", "X"+at+",8:aaaabbbb")
		asked(t, s, "OK", "M"+at+",0:", "X"+at+",0:", "M"+at+",0000000000000000:")
	}
	asked(t, s, "E02", "M8000003f,2:0102", "X8000003f,2:ab", "M7fffffff,2:0102", "X7fffffff,2:ab")
}

// TestSection17_3PutForm: what is not of the form of M and X, which is told ahead of what can't be done: a length of more than the bytes that are there, too.
func TestSection17_3PutForm(t *testing.T) {
	s := made(t, painted(64))
	asked(t, s, "E01", "M", "M80000000", "M80000000,1", "M80000000,0", "M80000000,1:", "M80000000,1:0", "M80000000,1:000", "M80000000,1:0000", "M80000000,2:00", "M80000000,0:0", "M80000000,0:00", "M80000000,1:0g", "M80000000,1: 0", "M80000000,1:+1", "M80000000,1:0x", "M80000000,1;00", "M80000000:1,00", "M80000000,1,00", "M,1:00", "M80000000,:00", "M80000000,:", "M:", "M,:", "M80000000:00", "Mx,1:00", "M80000000,x:00", "M80000000,1:00:", "M80000000,1::00", "M80000000,1:00,", "M00000000080000000,1:00", "M80000000,00000000000000001:00", "M80000000,2:00 00", "M80000000,1:\xff\xff")
	asked(t, s, "E01", "X", "X80000000", "X80000000,1", "X80000000,0", "X80000000,1:", "X80000000,1:ab", "X80000000,2:a", "X80000000,0:a", "X80000000,1;a", "X80000000:1,a", "X,1:a", "X80000000,:a", "X80000000,:", "X:", "X,:", "X80000000:a", "Xx,1:a", "X80000000,x:a", "X00000000080000000,1:a", "X80000000,00000000000000001:a", "X80000000,1::a")
	for _, most := range []string{"8000000000000000", "8000000000000001", "ffffffffffffffff", "4000000000000000", "7fffffffffffffff", "100000000", "100000001", "1000000000000001"} {
		asked(t, s, "E01", "M80000000,"+most+":", "M80000000,"+most+":00", "M80000000,"+most+":0000", "X80000000,"+most+":", "X80000000,"+most+":a", "X0,"+most+":ab")
	}
	asked(t, s, "E01", "M0,1:0", "X0,1:ab", "M0,2:00", "M0,1:gg")
	ask(t, s, "X80000000,1::", "OK")
	ask(t, s, "X80000001,2:::", "OK")
	ask(t, s, "X80000003,3:a:,", "OK")
	if b := s.Whole().Bus.Ram[:6]; string(b) != ":::a:," {
		t.Errorf("17.3: X has put %q", b)
	}
}

// TestSection17_3PutMost: as many bytes as a packet holds.
func TestSection17_3PutMost(t *testing.T) {
	s := made(t, bare(maxRam))
	b := anyBytes(random(3), maxPacket)
	n := maxPacket - len("X80000100,3da:")
	ask(t, s, fmt.Sprintf("X%x,%x:%s", ram+256, n, b[:n]), "OK")
	if cells := s.Whole().Bus.Ram; !bytes.Equal(cells[256:256+n], b[:n]) || cells[255] != 0 || cells[256+n] != 0 || n != 986 {
		t.Errorf("17.3: X has put other bytes than %d", n)
	}
	ask(t, s, fmt.Sprintf("X%x,%x:%s", ram+256, n+1, b[:n+1]), "E03")
	n = (maxPacket - len("M8000fe14,1ec:")) / 2
	at := maxRam - n
	ask(t, s, fmt.Sprintf("M%x,%x:%x", ram+at, n, b[:n]), "OK")
	if cells := s.Whole().Bus.Ram; !bytes.Equal(cells[at:], b[:n]) || cells[at-1] != 0 {
		t.Errorf("17.3: M has put other bytes than %d", n)
	}
	ask(t, s, fmt.Sprintf("M%x,%x:%x", ram, n+1, b[:n+1]), "E03")
	asked(t, s, "OK", "X80000000,0:")
	ask(t, s, "X80000000,40:"+strings.Repeat("}", 64), "OK")
}

// TestSection17_3PutRes: what is put in changes nothing of the Cpu, the reservation neither; and the next step sees it.
func TestSection17_3PutRes(t *testing.T) {
	d := bare(64)
	d.Cpu.Res = api.Res{Valid: true, Addr: ram + 8, Size: 8}
	s := made(t, d)
	ask(t, s, "M80000008,8:0102030405060708", "OK")
	ask(t, s, "X80000000,2:\x05\x05", "OK")
	if c := s.Whole().Cpu; c.Res != d.Cpu.Res || c.Pc != ram {
		t.Errorf("17.3: behind M and X the Cpu is %+v", c)
	}
	ask(t, s, "s", "S05")
	ask(t, s, "pa", word(1))
}
