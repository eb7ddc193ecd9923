package gdb_test

import (
	"encoding/hex"
	"fmt"
	"math/rand/v2"
	"strings"
	"testing"

	"anvil/api"
)

// random is a source that gives the same numbers each time.
func random(seed uint64) *rand.Rand { return rand.New(rand.NewPCG(seed, 17)) }

func one[T any](r *rand.Rand, of ...T) T { return of[r.IntN(len(of))] }

// anyBytes is so many bytes of any kind.
func anyBytes(r *rand.Rand, n int) []byte {
	b := make([]byte, n)
	for i := range b {
		b[i] = byte(r.Uint32())
	}
	return b
}

// anyOf is so many bytes, each one of these.
func anyOf(r *rand.Rand, n int, of string) []byte {
	b := make([]byte, n)
	for i := range b {
		b[i] = of[r.IntN(len(of))]
	}
	return b
}

// few is the bytes of RAM of these decks: their program has at most half of them.
const few = 128

// anyLine is an instruction of a program with so many lines: s0 is RAM's, s1, s2, s3 are devices'.
func anyLine(r *rand.Rand, lines int) string {
	to := fmt.Sprintf("l%d", r.IntN(lines))
	switch r.IntN(8) {
	case 0, 1, 2:
		return one(r,
			"sb a0, 1(s0)", "sh a0, 2(s0)", "sw a0, 4(s0)", "sd a0, 8(s0)", "c.sd a1, 16(s0)", "sd a1, 0(s0)", "sw a2, 20(s0)", "sd a2, 24(s0)",
			"lb a1, 3(s0)", "lhu a2, 6(s0)", "lw a3, 4(s0)", "ld a4, 8(s0)", "c.lw a5, 12(s0)", "ld a1, 24(s0)", "lbu a0, 8(s0)", "lwu a1, 16(s0)",
			"amoadd.w a0, a1, (s0)", "amoswap.d a0, a1, (s0)", "lr.w a0, (s0)", "lr.d a0, (s0)", "sc.w a0, a1, (s0)", "sc.d a0, a1, (s0)")
	case 3, 4:
		return one(r, "addi a0, a0, 1", "addi a1, a1, -1", "add a2, a0, a1", "c.addi a3, 3", "c.nop", "mul a4, a0, a1", "auipc a5, 0", "fence")
	case 5:
		return one(r, "sb a0, 0(s1)", "lbu a0, 0(s1)", "lbu a0, 5(s1)", "sb a0, 1(s1)", "ld a1, 0(s2)", "sd a0, 0(s2)", "sw a0, 0(s3)", "lw a0, 0(s3)")
	case 6:
		return one(r, "j "+to, "beqz a0, "+to, "bnez a1, "+to, "bltu a0, a1, "+to, "jal ra, "+to, "jr ra")
	}
	return one(r, "wfi", "ecall", "csrsi mie, 8", "ebreak", "mret", "csrrw a0, mscratch, a1", "csrsi mstatus, 8", "csrci mstatus, 8", "csrr a2, mcycle", "csrr a3, mip", "csrw mepc, a5", ".half 0")
}

// anyDeck is a deck with a program that reaches RAM and devices, loops, waits and traps, and with worlds.
func anyDeck(t *testing.T, r *rand.Rand) api.Deck {
	t.Helper()
	lines := make([]string, 3+r.IntN(12))
	for i := range lines {
		lines[i] = fmt.Sprintf("l%d: %s", i, anyLine(r, len(lines)))
	}
	if r.IntN(3) == 0 { // a way to turn the power off
		lines = append(lines, "sw s5, 0(s4)")
	}
	d := sourced(t, few, lines...)
	c := &d.Cpu
	for i := range 31 {
		c.X[i+1] = one(r, 0, 1, r.Uint64N(20), ones, r.Uint64(), ram+r.Uint64N(few)&^7)
	}
	c.X[8], c.X[9], c.X[18], c.X[19] = ram+64+8*r.Uint64N(2), console, one[uint64](r, mtime, mtimecmp), msip
	c.X[20], c.X[21] = finisher, one(r, 0x5555, 0x3333, 0x73333, r.Uint64()<<16|0x3333, 0)
	c.Mtvec, c.Mie, c.Mstatus = one(r, ram, ram, ram+4*r.Uint64N(16)+r.Uint64N(2)), one[uint64](r, 0, 0x888, 8, 0x80), one[uint64](r, 0, 8, 0x1800, 0x1888)
	if r.IntN(3) == 0 {
		c.Mode = api.U
		c.Pmp.Cfg[0], c.Pmp.Addr[0] = one[uint8](r, 0x1f, 0x1f, 0x1d, 0x9f), 1<<54-1
	}
	c.Waiting, d.Mtime = r.IntN(20) == 0, one(r, 0, 0, ones, r.Uint64())
	for range r.IntN(12) {
		d.Worlds = append(d.Worlds, api.World{Tick: r.IntN(2) == 0, Ext: r.IntN(4) == 0, Soft: r.IntN(4) == 0, Input: anyBytes(r, one(r, 0, 0, 1, 5))})
	}
	return d
}

// anyPlace is an address, mostly of RAM, or a device's.
func anyPlace(r *rand.Rand) uint64 {
	return one(r, ram+r.Uint64N(few), ram+r.Uint64N(few), ram+2*r.Uint64N(32), ram+2*r.Uint64N(32), ram+few-r.Uint64N(4), ram-r.Uint64N(4), one[uint64](r, finisher, msip, mtime, mtimecmp, console, console+5), ones-r.Uint64N(9), r.Uint64N(9), r.Uint64())
}

// anyNumber is a number's digits, written in one of the ways.
func anyNumber(r *rand.Rand, n uint64) string {
	return fmt.Sprintf(one(r, "%x", "%x", "%x", "%X", "%016x", "%016X", "0%x"), n)
}

// anyRegister is a register's number, of one that is there or not.
func anyRegister(r *rand.Rand) string {
	return anyNumber(r, one(r, r.Uint64N(34), r.Uint64N(34), 65+one[uint64](r, 0x300, 0x304, 0x305, 0x340, 0x341, 0x342, 0x344, 0xb00, 0xb02, 0xc00, 0xc01, 0x3a0, 0x3b0, 0x301, 0xf13, 0x7a0), 30+r.Uint64N(40), 65+r.Uint64N(4100), r.Uint64()))
}

// anyDigits is so many bytes' digits.
func anyDigits(r *rand.Rand, n int) string {
	text := hex.EncodeToString(anyBytes(r, n))
	if r.IntN(3) == 0 {
		return strings.ToUpper(text)
	}
	return text
}

// anyStop is what stands behind Z and z: mostly a breakpoint in the program, or a watch where the program's accesses are.
func anyStop(r *rand.Rand) string {
	kind, at, k := one(r, 0, 1), ram+4*r.Uint64N(16), one(r, 0, 2, 4, r.Uint64())
	if r.IntN(3) > 0 {
		kind, at, k = one(r, 2, 3, 4), ram+60+4*r.Uint64N(10), one[uint64](r, 1, 4, 4, 8, 8)
	}
	if r.IntN(6) == 0 {
		kind, at, k = r.IntN(10), anyPlace(r), r.Uint64N(10)
	}
	return fmt.Sprintf("%d,%s,%s", kind, anyNumber(r, at), anyNumber(r, k))
}

// looking is a payload that changes nothing.
func looking(r *rand.Rand) string {
	switch r.IntN(6) {
	case 0:
		return one(r, "?", "g", "vCont?", "qC", "qfThreadInfo", "qsThreadInfo", "qAttached", "qSupported:x+", "H"+string(anyBytes(r, r.IntN(4))), "T1", "", "v", "q", "qX", "!", "vCont", "vCont;s:2")
	case 1:
		return "p" + anyRegister(r)
	case 2:
		return "m" + anyNumber(r, anyPlace(r)) + "," + anyNumber(r, one(r, 0, 1, 4, 8, r.Uint64N(few), few, 500, 501, r.Uint64()))
	}
	return one(r, "Z", "Z", "z") + anyStop(r)
}

// changing is a payload that sets registers or RAM, or steps.
func changing(r *rand.Rand) string {
	switch r.IntN(12) {
	case 0:
		return "P" + anyRegister(r) + "=" + anyDigits(r, 8)
	case 1:
		return "P" + anyNumber(r, 10+r.Uint64N(6)) + "=" + word(anyPlace(r))
	case 2:
		n := r.IntN(9)
		return "M" + anyNumber(r, ram+64+r.Uint64N(66)) + "," + anyNumber(r, uint64(n)) + ":" + anyDigits(r, n)
	case 3:
		n := r.IntN(9)
		return "X" + anyNumber(r, ram+64+r.Uint64N(66)) + "," + anyNumber(r, uint64(n)) + ":" + string(anyBytes(r, n))
	case 4:
		if r.IntN(10) == 0 {
			return "G" + anyDigits(r, 264)
		}
		return "c" + anyNumber(r, ram+2*r.Uint64N(32))
	case 5:
		return "s" + anyNumber(r, ram+r.Uint64N(64))
	}
	return one(r, "s", "s", "c", "c", "c", "c80000000", "vCont;s", "vCont;c", "vCont;s:1", "vCont;c:1")
}

// spoiled is a payload with a byte more, less or another.
func spoiled(r *rand.Rand, p string) string {
	i := r.IntN(len(p) + 1)
	behind := p[min(len(p), i+1):]
	return one(r, p[:i]+behind, p[:i]+string(anyOf(r, 1, "0aF,:=;#$}* xgs?"))+behind, p[:i]+string(anyBytes(r, 1))+p[i:], p+one(r, "0", ",", " ", "1"))
}

// anyPiece is a packet, whole or not quite, and bytes between.
func anyPiece(r *rand.Rand, payload string) string {
	p := packet(payload)
	switch r.IntN(16) {
	case 0:
		return wrong(p)
	case 1:
		return p[:len(p)-2] + strings.ToUpper(p[len(p)-2:])
	case 2:
		return "$" + string(anyOf(r, r.IntN(5), "sck}a$")) + p
	case 3:
		return p + string(anyOf(r, r.IntN(5), "-+\x03x#"))
	case 4:
		return p[:len(p)-2] + string(anyOf(r, 2, "0fFgz#$-"))
	case 5:
		pair := func(c byte) string { return string([]byte{'}', c ^ 32}) }
		body := ""
		for i := range len(payload) {
			if c := payload[i]; strings.Contains("#$}*\x03\x04", payload[i:i+1]) || r.IntN(2) == 0 && c != '\x03' && c != '\x04' {
				body += pair(c)
			} else {
				body += payload[i : i+1]
			}
		}
		return framed(strings.NewReplacer("}#", "#", "}$", "$").Replace(body))
	case 6:
		return string(anyBytes(r, r.IntN(6)))
	case 7:
		return one(r, p, p, framed("s}"), framed("H"+strings.Repeat(one(r, "a", "}A"), maxPacket-r.IntN(3))))
	}
	return p
}

// anyTalk is pieces of a talk, with now and then an end of acknowledging, and at its end perhaps of all.
func anyTalk(r *rand.Rand, n int) []string {
	var all []string
	for range r.IntN(6) {
		all = append(all, packet("Z"+anyStop(r)))
	}
	for range n {
		payload := looking(r)
		if r.IntN(2) == 0 {
			payload = changing(r)
		}
		if r.IntN(6) == 0 {
			payload = spoiled(r, payload)
		}
		all = append(all, anyPiece(r, payload))
	}
	if r.IntN(3) == 0 {
		all[r.IntN(len(all))] = packet("QStartNoAckMode")
	}
	if r.IntN(3) == 0 {
		all = append(all, packet(one(r, "D", "k")), packet("s"), "-")
	}
	return all
}
