package speak_test

import (
	"fmt"
	"strings"
	"testing"

	"anvil/decode"
	"anvil/speak"
)

// TestP7_3Long: the text of each name of 32 bits, each of its fields at all its values.
func TestP7_3Long(t *testing.T) {
	r := random(1)
	names := 0
	for _, d := range drawings {
		if d.length() != 4 {
			continue
		}
		names++
		for i := range d.slots {
			raw := anyOf(r, d)
			for _, bit := range []uint32{0, 1 << i} {
				changed := raw&^(1<<i) | bit
				tells(t, changed, ram, modelPrint(changed, ram))
			}
		}
		for range 300 {
			raw, pc := anyOf(r, d), anyPlace(r)
			tells(t, raw, pc, modelPrint(raw, pc))
			if got := speak.Print(raw, pc); !strings.HasPrefix(got, d.name) {
				t.Errorf("P7.3: Print(%#08x) = %q, want the name %s", raw, got, d.name)
			}
		}
	}
	if want := 52 + 22 + 22*4; names != want {
		t.Errorf("%d names, want %d: the test has grown idle", names, want)
	}
}

// TestP7_3Fields: each register and each bit of a number where it stands, in plain words.
func TestP7_3Fields(t *testing.T) {
	for n, name := range registers {
		u := uint32(n)
		tells(t, 0x00000037|u<<7, ram, "lui "+name+", 0x0")
		tells(t, 0x00000033|u<<7, ram, "add "+name+", zero, zero")
		tells(t, 0x00000033|u<<15, ram, "add zero, "+name+", zero")
		tells(t, 0x00000033|u<<20, ram, "add zero, zero, "+name)
		tells(t, 0x00000023|u<<15, ram, "sb zero, 0("+name+")")
		tells(t, 0x00000023|u<<20, ram, "sb "+name+", 0(zero)")
		tells(t, 0x00000003|u<<15, ram, "lb zero, 0("+name+")")
		tells(t, 0x1000202f|u<<15, ram, "lr.w zero, ("+name+")")
		tells(t, 0x1800202f|u<<20, ram, "sc.w zero, "+name+", (zero)")
		tells(t, 0x00005073|u<<15, ram, fmt.Sprintf("csrrwi zero, 0x0, %d", n))
		tells(t, 0x00001073|u<<15, ram, "csrrw zero, 0x0, "+name)
		tells(t, 0x00001013|u<<20, ram, fmt.Sprintf("slli zero, zero, %d", n))
		tells(t, 0x0000101b|u<<20, ram, fmt.Sprintf("slliw zero, zero, %d", n))
	}
	for n := range 4096 {
		u, signed := uint32(n), n
		if n >= 2048 {
			signed -= 4096
		}
		tells(t, 0x00000013|u<<20, ram, fmt.Sprintf("addi zero, zero, %d", signed))
		tells(t, 0x00000067|u<<20, ram, fmt.Sprintf("jalr zero, %d(zero)", signed))
		tells(t, 0x00000023|u>>5<<25|u&31<<7, ram, fmt.Sprintf("sb zero, %d(zero)", signed))
		tells(t, 0x00002073|u<<20, ram, "csrrs zero, "+speak.Csr(n)+", zero")
	}
	for n := range 256 {
		want := "fence " + set(n>>4) + ", " + set(n&15)
		tells(t, 0x0000000f|uint32(n)<<20, ram, want)
	}
	for bit := range 20 {
		tells(t, 0x00000037|1<<(12+bit), ram, fmt.Sprintf("lui zero, %#x", 1<<bit))
		tells(t, 0x00000017|1<<(12+bit), ram, fmt.Sprintf("auipc zero, %#x", 1<<bit))
	}
}

// set is the letters of four bits.
func set(n int) string {
	return []string{"0", "w", "r", "rw", "o", "ow", "or", "orw", "i", "iw", "ir", "irw", "io", "iow", "ior", "iorw"}[n]
}

// TestP7_3Ends: what atomics' names have behind them.
func TestP7_3Ends(t *testing.T) {
	for bits, end := range []string{"", ".rl", ".aq", ".aqrl"} {
		order := uint32(bits) << 25
		tells(t, 0x1005a52f|order, ram, "lr.w"+end+" a0, (a1)")
		tells(t, 0x1005b52f|order, ram, "lr.d"+end+" a0, (a1)")
		tells(t, 0x1855a52f|order, ram, "sc.w"+end+" a0, t0, (a1)")
		tells(t, 0x0855b52f|order, ram, "amoswap.d"+end+" a0, t0, (a1)")
		tells(t, 0xe055b52f|order, ram, "amomaxu.d"+end+" a0, t0, (a1)")
	}
}

// TestP7_3Word: raws with the low bits 11 that have no other text.
func TestP7_3Word(t *testing.T) {
	for _, raw := range []uint32{
		0x00000003 | 7<<12, 0x00004023, 0x00002063, 0x00003063, 0x00001067, 0x04001013, 0x80005013, 0x0200101b, 0x4200501b, 0x0000201b,
		0x04000033, 0x40001033, 0x0000203b, 0x4000103b, 0x0200103b, 0x0200203b, 0x0200303b, 0x0000007f, 0xffffffff, 0x00000007, 0x0000000b, 0x0000001f,
		0x00200073, 0x00300073, 0x10200073, 0x30200173, 0x00008073, 0x12000073, 0x00004073, 0x0000402f, 0x0000102f, 0x1010202f, 0x1010302f, 0xf800202f, 0x2800202f,
		0x0000200f, 0x0000700f, 0x0ff0f08f,
	} {
		if in := decode.Decode(raw); in.Op != 0 {
			t.Errorf("the test's %#08x is legal: %+v", raw, in)
		}
		tells(t, raw, ram, fmt.Sprintf(".word 0x%08x", raw))
	}
	for bit := 7; bit < 32; bit++ {
		raw := uint32(0x0000000f) | 1<<bit
		if bit < 12 || bit >= 15 && bit < 20 || bit >= 28 { // rd, rs1, the highest four
			tells(t, raw, ram, fmt.Sprintf(".word 0x%08x", raw))
		}
		raw = uint32(0x0000100f) | 1<<bit
		if bit < 12 || bit >= 15 {
			tells(t, raw, ram, fmt.Sprintf(".word 0x%08x", raw))
		}
	}
	tells(t, 0x0000000f, ram, "fence 0, 0")
	tells(t, 0x0ff0000f, ram, "fence iorw, iorw")
	tells(t, 0x0000100f, ram, "fence.i")
}

// TestP7_3Any: any raw at any place, and those whose low bits are near an instruction's.
func TestP7_3Any(t *testing.T) {
	r := random(2)
	words, others := 0, 0
	for range 60_000 {
		raw, pc := r.Uint32(), anyPlace(r)
		if r.IntN(2) == 0 {
			raw = anyOf(r, drawings[r.IntN(len(drawings))]) ^ 1<<r.IntN(32)
		}
		want := modelPrint(raw, pc)
		if strings.HasPrefix(want, ".") {
			words++
		} else {
			others++
		}
		tells(t, raw, pc, want)
	}
	if words < 10_000 || others < 10_000 {
		t.Errorf("%d as bits, %d as instructions: the test has grown idle", words, others)
	}
}

// TestP7_3Parcels: every parcel at several places, whatever is above it; each name of section 7.4 is among them.
func TestP7_3Parcels(t *testing.T) {
	r := random(3)
	names := map[string]int{}
	for p := range 1 << 16 {
		if p%4 == 3 {
			continue
		}
		raw := uint32(p)
		for _, pc := range []uint64{ram, 0, last, anyPlace(r)} {
			want := modelPrint(raw, pc)
			name, _, _ := strings.Cut(want, " ")
			names[name]++
			tells(t, raw, pc, want)
		}
		tells(t, raw|r.Uint32()<<16, ram, modelPrint(raw, ram))
	}
	for _, d := range drawings {
		if d.length() == 2 && names[d.name] == 0 {
			t.Errorf("no parcel is told as %s", d.name)
		}
	}
	if len(names) != 33+1 || names[".half"] == 0 {
		t.Errorf("%d names, want 33 and .half: %v", len(names), names)
	}
}

// TestP7_3Names: which of two names an encoding has.
func TestP7_3Names(t *testing.T) {
	tells(t, 0x4001, ram, "c.li zero, 0")
	tells(t, 0x507d, ram, "c.li zero, -1")
	tells(t, 0x0001, ram, "c.nop")
	tells(t, 0x1001, ram, "c.nop -32")
	tells(t, 0x007d, ram, "c.nop 31")
	tells(t, 0x0501, ram, "c.addi a0, 0")
	tells(t, 0x0141, ram, "c.addi sp, 16")
	tells(t, 0x6141, ram, "c.addi16sp sp, 16")
	tells(t, 0x7101, ram, "c.addi16sp sp, -512")
	tells(t, 0x6101, ram, ".half 0x6101")
	tells(t, 0x6005, ram, "c.lui zero, 0x1")
	tells(t, 0x7001, ram, "c.lui zero, 0xfffe0")
	tells(t, 0x607d, ram, "c.lui zero, 0x1f")
	tells(t, 0x6001, ram, ".half 0x6001")
	tells(t, 0x8006, ram, "c.mv zero, ra")
	tells(t, 0x9006, ram, "c.add zero, ra")
	tells(t, 0x8002, ram, ".half 0x8002")
	tells(t, 0x9002, ram, "c.ebreak")
	tells(t, 0x2001, ram, ".half 0x2001")
	tells(t, 0x0002, ram, "c.slli zero, 0")
	tells(t, 0x1ffe, ram, "c.slli t6, 63")
	tells(t, 0x4002, ram, ".half 0x4002")
	tells(t, 0xc002, ram, "c.swsp zero, 0(sp)")
	tells(t, 0xfffe, ram, "c.sdsp t6, 504(sp)")
	tells(t, 0x1ffc, ram, "c.addi4spn a5, sp, 1020")
	tells(t, 0x9c41, ram, ".half 0x9c41")
	tells(t, 0x00010000, ram, ".half 0x0000")
}

// TestP7_3Round: targets that go round, and places that are odd.
func TestP7_3Round(t *testing.T) {
	tells(t, 0x8000006f, 0, "jal zero, 0xfffffffffff00000")
	tells(t, 0x7ffff06f, last, "jal zero, 0xffffd")
	tells(t, 0x7ffff06f, last-0xffffd, "jal zero, 0x0")
	tells(t, 0xfe000ee3, 3, "beq zero, zero, 0xffffffffffffffff")
	tells(t, 0xfe000ee3, 4, "beq zero, zero, 0x0")
	tells(t, 0x7e000fe3, last, "beq zero, zero, 0xffd")
	tells(t, 0x0000006f, 3, "jal zero, 0x3")
	tells(t, 0xb001, 1, "c.j 0xfffffffffffff801")
	tells(t, 0xaffd, last, "c.j 0x7fd")
	tells(t, 0xd381, 0, "c.beqz a5, 0xffffffffffffff00")
	tells(t, 0xec7d, last-1, "c.bnez s0, 0xfc")
	tells(t, 0xfff50513, last, "addi a0, a0, -1")
}
