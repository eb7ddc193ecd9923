package speak_test

import (
	"fmt"
	"strings"
	"testing"

	"anvil/api"
	"anvil/decode"
	"anvil/speak"
)

// TestP7_4Record: what is answered is the whole record.
func TestP7_4Record(t *testing.T) {
	for _, c := range []struct {
		text string
		want api.Instr
	}{
		{"addi a0, a1, -5", api.Instr{Op: api.OpAddi, Rd: 10, Rs1: 11, Imm: -5, Len: 4, Raw: 0xffb58513}},
		{"lui a0, 0x80000", api.Instr{Op: api.OpLui, Rd: 10, Imm: -1 << 31, Len: 4, Raw: 0x80000537}},
		{"jal ra, 0x7ff00000", api.Instr{Op: api.OpJal, Rd: 1, Imm: -1 << 20, Len: 4, Raw: 0x800000ef}},
		{"sw a0, -4(a1)", api.Instr{Op: api.OpSw, Rs1: 11, Rs2: 10, Imm: -4, Len: 4, Raw: 0xfea5ae23}},
		{"beq a0, a1, 0x80000010", api.Instr{Op: api.OpBeq, Rs1: 10, Rs2: 11, Imm: 16, Len: 4, Raw: 0x00b50863}},
		{"csrrwi a0, mstatus, 31", api.Instr{Op: api.OpCsrrwi, Rd: 10, Rs1: 31, Imm: 0x300, Len: 4, Raw: 0x300fd573}},
		{"amoswap.d.aqrl a0, t0, (a1)", api.Instr{Op: api.OpAmoswapD, Rd: 10, Rs1: 11, Rs2: 5, Aq: true, Rl: true, Len: 4, Raw: 0x0e55b52f}},
		{"lr.w.aq a0, (a1)", api.Instr{Op: api.OpLrW, Rd: 10, Rs1: 11, Aq: true, Len: 4, Raw: 0x1405a52f}},
		{"fence iorw, iorw", api.Instr{Op: api.OpFence, Imm: 255, Len: 4, Raw: 0x0ff0000f}},
		{"fence.i", api.Instr{Op: api.OpFenceI, Len: 4, Raw: 0x0000100f}},
		{"ecall", api.Instr{Op: api.OpEcall, Len: 4, Raw: 0x00000073}},
		{"c.addi a0, 1", api.Instr{Op: api.OpAddi, Rd: 10, Rs1: 10, Imm: 1, Len: 2, Raw: 0x0505}},
		{"c.nop", api.Instr{Op: api.OpAddi, Len: 2, Raw: 0x0001}},
		{"c.nop 0", api.Instr{Op: api.OpAddi, Len: 2, Raw: 0x0001}},
		{"c.li zero, 0", api.Instr{Op: api.OpAddi, Len: 2, Raw: 0x4001}},
		{"c.li zero, -1", api.Instr{Op: api.OpAddi, Imm: -1, Len: 2, Raw: 0x507d}},
		{"c.addi sp, 16", api.Instr{Op: api.OpAddi, Rd: 2, Rs1: 2, Imm: 16, Len: 2, Raw: 0x0141}},
		{"c.addi16sp sp, 16", api.Instr{Op: api.OpAddi, Rd: 2, Rs1: 2, Imm: 16, Len: 2, Raw: 0x6141}},
		{"c.addi16sp sp, -16", api.Instr{Op: api.OpAddi, Rd: 2, Rs1: 2, Imm: -16, Len: 2, Raw: 0x717d}},
		{"c.mv zero, t0", api.Instr{Op: api.OpAdd, Rs2: 5, Len: 2, Raw: 0x8016}},
		{"c.add zero, t0", api.Instr{Op: api.OpAdd, Rs2: 5, Len: 2, Raw: 0x9016}},
		{"c.jr ra", api.Instr{Op: api.OpJalr, Rs1: 1, Len: 2, Raw: 0x8082}},
		{"c.jalr ra", api.Instr{Op: api.OpJalr, Rd: 1, Rs1: 1, Len: 2, Raw: 0x9082}},
		{".word 0x00000013", api.Instr{Op: api.OpAddi, Len: 4, Raw: 0x00000013}},
		{".word 0x8330000f", api.Instr{Op: api.OpFence, Imm: 0x833, Len: 4, Raw: 0x8330000f}},
		{".word 0xffffffff", api.Instr{Len: 4, Raw: 0xffffffff}},
		{".half 0x4505", api.Instr{Op: api.OpAddi, Rd: 10, Imm: 1, Len: 2, Raw: 0x4505}},
		{".half 0", api.Instr{Len: 2}},
		{".half 65534", api.Instr{Op: api.OpSd, Rs1: 2, Rs2: 31, Imm: 504, Len: 2, Raw: 0xfffe}},
	} {
		if got, e := speak.Parse(c.text, ram); got != c.want || e != api.OK {
			t.Errorf("P7.4: Parse(%q) = %+v, %d, want %+v, OK", c.text, got, e, c.want)
		}
	}
}

// pieces are a text's words and marks, one by one.
func pieces(text string) []string {
	text = strings.NewReplacer(",", " , ", "(", " ( ", ")", " ) ").Replace(text)
	return strings.Fields(text)
}

// TestP7_4Room: room where it may be, in texts of each name.
func TestP7_4Room(t *testing.T) {
	r := random(10)
	for _, d := range drawings {
		raw := anyOf(r, d)
		parts := pieces(speak.Print(raw, ram))
		for gap := range len(parts) + 1 {
			for _, room := range []string{" ", "\t", "  \t \t"} {
				text := ""
				for i, part := range parts {
					if i == gap {
						text += room
					}
					text += part
					if i == 0 && len(parts) > 1 {
						text += " "
					}
				}
				if gap == len(parts) {
					text += room
				}
				says(t, text, ram, raw)
			}
		}
		says(t, "\t "+strings.Replace(strings.Join(parts, " \t"), " \t", "\t", 1)+" \t", ram, raw)
	}
}

// TestP7_4NoRoom: no room within a word, no other kinds of it, and at least one blank behind a name that has operands.
func TestP7_4NoRoom(t *testing.T) {
	r := random(11)
	within := 0
	for _, d := range drawings {
		text := speak.Print(anyOf(r, d), ram)
		for at := 1; at < len(text); at++ {
			if strings.ContainsAny(text[at-1:at+1], " ,()") {
				continue
			}
			within++
			for _, room := range []string{" ", "\t"} {
				if e := readsAsModel(t, text[:at]+room+text[at:], ram); e == api.OK {
					t.Errorf("the model reads room within a word: %q", text[:at]+room+text[at:])
				}
			}
		}
		for at := range len(text) + 1 {
			for _, other := range []string{"\n", "\r", "\v", "\f", "\x00", "\u00a0", "\u2003", "\ufeff", "\xff", "\xc2", "é"} {
				if e := readsAsModel(t, text[:at]+other+text[at:], ram); e == api.OK {
					t.Errorf("the model reads %q", text[:at]+other+text[at:])
				}
			}
		}
		if strings.Contains(text, " ") {
			refuses(t, strings.Replace(text, " ", "", 1), ram, api.ErrWord)
		}
	}
	if within < 1000 {
		t.Errorf("%d places within words: the test has grown idle", within)
	}
	refuses(t, "c.nop1", ram, api.ErrWord)
	refuses(t, "lr.w(a0)", ram, api.ErrWord)
	refuses(t, "ecall,", ram, api.ErrWord)
	refuses(t, "addi a0, a0, - 1", ram, api.ErrOperand)
	refuses(t, "addi a0, a0, 0x 1", ram, api.ErrOperand)
	refuses(t, "addi a 0, a0, 1", ram, api.ErrOperand)
	refuses(t, "fence i o, 0", ram, api.ErrOperand)
	refuses(t, "lr.w .aq a0, (a1)", ram, api.ErrOperand)
	refuses(t, "c. nop", ram, api.ErrWord)
}

// TestP7_4Long: MaxLine bytes are read, one more is not, whatever they are.
func TestP7_4Long(t *testing.T) {
	fill := strings.Repeat(" ", api.MaxLine-len("ecall"))
	says(t, fill+"ecall", ram, 0x73)
	says(t, "ecall"+fill, ram, 0x73)
	refuses(t, fill+" ecall", ram, api.ErrLong)
	refuses(t, "ecall "+fill, ram, api.ErrLong)
	refuses(t, fill+" eball", ram, api.ErrLong)
	refuses(t, strings.Repeat("x", api.MaxLine), ram, api.ErrWord)
	refuses(t, strings.Repeat("x", api.MaxLine+1), ram, api.ErrLong)
	refuses(t, strings.Repeat(" ", api.MaxLine), ram, api.ErrWord)
	refuses(t, strings.Repeat(" ", api.MaxLine+1), ram, api.ErrLong)
	refuses(t, strings.Repeat("é", api.MaxLine/2), ram, api.ErrWord)
	refuses(t, strings.Repeat("é", api.MaxLine/2+1), ram, api.ErrLong) // bytes count, not runes
	refuses(t, strings.Repeat("ecall", 100_000), ram, api.ErrLong)
	zeros := strings.Repeat("0", api.MaxLine-len(".half 0x1"))
	says(t, ".half 0x"+zeros+"1", ram, 1)
	says(t, ".half 00"+zeros+"1", ram, 1)
	refuses(t, ".half 0x"+zeros+"01", ram, api.ErrLong)
	refuses(t, "addi "+strings.Repeat(",", api.MaxLine-5), ram, api.ErrOperand)
	refuses(t, "addi "+strings.Repeat("(", api.MaxLine-5), ram, api.ErrOperand)
}

// TestP7_4Word: names that there are not.
func TestP7_4Word(t *testing.T) {
	for name := range byName {
		for _, wrong := range []string{strings.ToUpper(name), strings.ToUpper(name[:1]) + name[1:], name + ".", name + "x", "x" + name, "." + name, "c.c." + name, name[:len(name)-1] + "?", name + "é", name + "\xff", name + ",", name + "(", "(" + name, name + ".aq.aq", name + ".aqrl.rl", name + ".rl.aq", name + ".AQ", name + ".lr"} {
			if len(byName[wrong]) > 0 {
				continue
			}
			refuses(t, wrong, ram, api.ErrWord)
			refuses(t, wrong+" a0, a0, 1", ram, api.ErrWord)
		}
	}
	for name, all := range byName {
		for _, end := range []string{".aq", ".rl", ".aqrl"} {
			atomic := strings.HasSuffix(all[0].bits, "0101111")
			if base, is := strings.CutSuffix(name, end); is {
				name = base
			}
			if !atomic {
				refuses(t, name+end+" a0, a0, 1", ram, api.ErrWord)
			}
		}
	}
	for _, text := range []string{
		"", " ", "\t", " \t ", ",", "()", "#", ".", ".byte 1", ".words 3", ".Word 3", ".HALF 0", "word 3", "half 0", ".word,", ".dword 3", ".aq", ".rl", ".aqrl", ".w", ".d", "lr", "lr.", "lr.b a0, (a0)", "sc a0, a0, (a0)", "amoswap a0, a0, (a0)", "amoadd.q a0, a0, (a0)", "lr.aq a0, (a0)", "lr.aq.w a0, (a0)",
		"nop", "li a0, 1", "mv a0, a1", "ret", "j 0x80000000", "beqz a0, 0x80000000", "sret", "uret", "sfence.vma", "unimp", "fence.tso", "fencei", "c", "c.", "c.unimp", "c.jal 0x80000000", "c.addi4sp a0, sp, 4", "c.fld s0, 0(s0)", "c.nopx", "flw a0, 0(a0)", "illegal", "0", "a0", "\x00", "\xff", "é", "addi\n a0, a0, 1", "\naddi a0, a0, 1", "\raddi a0, a0, 1",
	} {
		refuses(t, text, ram, api.ErrWord)
	}
}

// TestP7_4Count: operands too few, too many, none, empty ones.
func TestP7_4Count(t *testing.T) {
	r := random(12)
	for _, d := range drawings {
		text := speak.Print(anyOf(r, d), ram)
		name, rest, _ := strings.Cut(text, " ")
		if rest == "" {
			refuses(t, text+",", ram, api.ErrWord) // the comma is of the name
		} else {
			refuses(t, text+",", ram, api.ErrOperand)
		}
		refuses(t, name+" ,", ram, api.ErrOperand)
		refuses(t, name+" ,"+rest, ram, api.ErrOperand)
		refuses(t, name+" a0 a0", ram, api.ErrOperand)
		for _, more := range []string{", a0", ", 0", " a0", " 0", ",,", " (", " )", "(a0)", ", (a0)", " ,", ", ,"} {
			readsAsModel(t, text+more, ram)
		}
		if len(d.words) > 0 {
			readsAsModel(t, name, ram)
			readsAsModel(t, name+" ", ram)
			cut := strings.LastIndex(rest, ",")
			if cut >= 0 {
				refuses(t, name+" "+rest[:cut], ram, api.ErrOperand)
				refuses(t, name+" "+rest[:cut+1], ram, api.ErrOperand)
				refuses(t, name+" "+strings.Replace(rest, ",", "", 1), ram, api.ErrOperand)
				refuses(t, name+" "+strings.Replace(rest, ",", ",,", 1), ram, api.ErrOperand)
				refuses(t, name+" "+strings.Replace(rest, ",", ";", 1), ram, api.ErrOperand)
			}
		}
	}
	for _, text := range []string{"addi", "addi ", "addi a0", "addi a0,", "addi a0, a0", "addi a0, a0,", "addi a0, a0, 1, 1", "ecall 1", "ecall ,", "ecall ()", "ecall a0", "mret 0", "c.nop 1, 1", "c.nop ,", "c.nop ,1", "c.nop a0", "c.ebreak 0", ".word", ".word ", ".word 3, 3", ".half", ".half 0, 0", ".half ,", "fence", "fence i", "fence i,", "fence i, o, r"} {
		refuses(t, text, ram, api.ErrOperand)
	}
}

// TestP7_4Form: operands of another form than the one that stands there.
func TestP7_4Form(t *testing.T) {
	r := random(13)
	others := []string{"a0", "x10", "fp", "zero", "mstatus", "0x300", "1", "-1", "0", "iorw", "w", "1(a0)", "(a0)", "0(sp)", "(sp)", "a0(a0)", "1(1)", "()", "1()", "(", ")", "1(a0", "1a0)", "((a0))", "1((a0))", "(a0)1", "1(a0)1", "1 (a0)", "", "é", "\xff", "+1", "--1", "0x", "A0", "x32", "MSTATUS", "1+1", "0b1", "1.5", "'a'", "%hi(1)", "18446744073709551616", "-9223372036854775809"}
	for _, d := range drawings {
		for range 3 {
			text := speak.Print(anyOf(r, d), ram)
			name, rest, _ := strings.Cut(text, " ")
			parts := strings.Split(rest, ", ")
			for i := range d.words {
				for _, other := range others {
					changed := append([]string{}, parts...)
					changed[i] = other
					readsAsModel(t, name+" "+strings.Join(changed, ", "), ram)
				}
			}
		}
	}
	for _, text := range []string{
		"addi 1, a0, 1", "addi a0, 1, 1", "addi a0, a0, a0", "add a0, a0, 1", "lw a0, a1", "lw a0, 1", "lw a0, (a1)", "lw a0, 0(1)", "lw a0, 0()", "lw a0, a0(a0)", "lw a0, 0(a1", "lw a0, 0 a1)", "lw a0, 0[a1]", "lw a0, 0(a1)(a1)", "lw 0(a1), a0",
		"lr.w a0, a1", "lr.w a0, 0(a1)", "lr.w a0, ((a1))", "lr.w a0, (0)", "sc.w a0, (a1), a2", "sc.w a0, a1, 0(a2)", "jal a0, a1", "jal ra", "beq a0, a1, a2", "lui a0, a1", "csrrw a0, a1, a2", "csrrw a0, -1, a2", "csrrw a0, -0, a2", "csrrw a0, 4096, a2", "csrrw a0, mstatus, 1", "csrrwi a0, mstatus, a2", "csrrwi a0, Mstatus, 1",
		"fence 1, 0", "fence 00, 0", "fence 0, 0x0", "fence iorwi, 0", "fence IORW, 0", "fence x, 0", "fence 0i, 0", "fence i0, 0", "fence rw rw", "fence é, 0", "fence i\xff, 0", "fence (i), 0", "fence -, -",
		"c.addi a0, a0", "c.lw a0, 0(a0)(a0)", "c.lw a0, (a0)", "c.lwsp a0, 0", "c.jr 0", "c.jr (ra)", "c.j ra", ".word a0", ".word (3)", ".half 0(a0)", ".half 0x",
	} {
		refuses(t, text, ram, api.ErrOperand)
	}
}

// TestP7_4Registers: of each place of a register all of them, by both names: those that the form has are read, the others refused.
func TestP7_4Registers(t *testing.T) {
	r := random(14)
	refused := map[string]int{}
	for _, d := range drawings {
		text := speak.Print(anyOf(r, d), ram)
		parts := pieces(text)
		for i, part := range parts[min(1, len(parts)):] {
			if _, is := modelRegister(part); !is {
				continue
			}
			for n, name := range registers {
				for _, as := range []string{name, "x" + itoa(n)} {
					parts[i+1] = as
					if readsAsModel(t, parts[0]+" "+strings.Join(parts[1:], ""), ram) == api.ErrOperand {
						refused[d.name]++
					}
				}
			}
			parts[i+1] = part
		}
	}
	for name, want := range map[string]int{
		"addi": 0, "c.li": 0, "c.slli": 0, "c.addi": 2, "c.addiw": 2, "c.jr": 2, "c.jalr": 2, "c.lwsp": 2 + 62, "c.ldsp": 2 + 62, "c.swsp": 62, "c.sdsp": 62, "c.mv": 2, "c.add": 2, "c.lui": 2,
		"c.addi4spn": 48 + 62, "c.addi16sp": 62, "c.lw": 48 + 48, "c.sd": 48 + 48, "c.andi": 48, "c.srli": 48, "c.srai": 48, "c.sub": 48 + 48, "c.addw": 48 + 48, "c.beqz": 48, "c.bnez": 48,
	} {
		if refused[name] != want {
			t.Errorf("of %s %d registers are refused, want %d", name, refused[name], want)
		}
	}
	says(t, "c.addi4spn fp, x2, 4", ram, 0x0040)
}

// TestP7_4First: where two refusals hold, the first of the document's list is told.
func TestP7_4First(t *testing.T) {
	long := strings.Repeat(" ", api.MaxLine)
	refuses(t, long+"foo", ram, api.ErrLong)
	refuses(t, long+"addi a0", ram, api.ErrLong)
	refuses(t, long+"addi a0, a0, 2048", ram, api.ErrLong)
	refuses(t, "foo a0", ram, api.ErrWord)
	refuses(t, "addi.aq a0", ram, api.ErrWord)
	refuses(t, "addi 2048, a0, a0", ram, api.ErrOperand)
	refuses(t, "addi a0, 1, 2048", ram, api.ErrOperand)
	refuses(t, "addi a0, a0, 2048, 1", ram, api.ErrOperand)
	refuses(t, "lui a9, 0x100000", ram, api.ErrOperand)
	refuses(t, "lw a0, 4096(a9)", ram, api.ErrOperand)
	refuses(t, "lw a9, 4096(a0)", ram, api.ErrOperand)
	refuses(t, "csrrwi a0, 4096, 32", ram, api.ErrOperand)
	refuses(t, "csrrwi a9, mstatus, 32", ram, api.ErrOperand)
	refuses(t, "c.lw t0, 2(s0)", ram, api.ErrOperand)
	refuses(t, "c.lw s0, 2(t0)", ram, api.ErrOperand)
	refuses(t, "c.lw s0, 2(5)", ram, api.ErrOperand)
	refuses(t, "c.lui sp, 0", ram, api.ErrOperand)
	refuses(t, "c.lui sp, 32", ram, api.ErrOperand)
	refuses(t, "c.lui a0, 32", ram, api.ErrReach)
	refuses(t, "c.addi zero, 32", ram, api.ErrOperand)
	refuses(t, "c.addi16sp a0, 0", ram, api.ErrOperand)
	refuses(t, "c.addi4spn a0, a0, 0", ram, api.ErrOperand)
	refuses(t, "c.lwsp zero, 1(sp)", ram, api.ErrOperand)
	refuses(t, "c.lwsp a0, 1(a0)", ram, api.ErrOperand)
	refuses(t, "c.beqz t0, 0", ram, api.ErrOperand)
	refuses(t, ".word 1, 3", ram, api.ErrOperand)
	refuses(t, ".half 18446744073709551616", ram, api.ErrOperand)
}

// TestP7_4Letters: what a fence orders, in every order, each letter at most once.
func TestP7_4Letters(t *testing.T) {
	texts := []string{"0"}
	for _, a := range []string{"", "i", "o", "r", "w"} {
		for _, b := range []string{"", "i", "o", "r", "w"} {
			for _, c := range []string{"", "i", "o", "r", "w"} {
				for _, d := range []string{"i", "o", "r", "w"} {
					texts = append(texts, a+b+c+d)
				}
			}
		}
	}
	good, bad := 0, 0
	for _, text := range texts {
		bits, twice := uint32(0), false
		for i, letter := range []string{"w", "r", "o", "i"} {
			if strings.Contains(text, letter) {
				bits |= 1 << i
			}
			twice = twice || strings.Count(text, letter) > 1
		}
		if twice {
			bad++
			refuses(t, "fence "+text+", 0", ram, api.ErrOperand)
			refuses(t, "fence 0, "+text, ram, api.ErrOperand)
			refuses(t, "fence "+text+", "+text, ram, api.ErrOperand)
			continue
		}
		good++
		says(t, "fence "+text+", 0", ram, 0x0f|bits<<24)
		says(t, "fence 0,"+text, ram, 0x0f|bits<<20)
		says(t, "fence\t"+text+" ,\t"+text, ram, 0x0f|bits<<24|bits<<20)
	}
	if good < 64 || bad < 64 {
		t.Errorf("%d read, %d refused: the test has grown idle", good, bad)
	}
	for b := range 256 {
		other := string([]byte{byte(b)})
		if strings.Contains("iorw \t", other) {
			continue
		}
		for _, text := range []string{"fence i" + other + ", 0", "fence " + other + "i, 0", "fence 0, rw" + other, "fence 0, r" + other + "w"} {
			refuses(t, text, ram, api.ErrOperand)
		}
	}
}

// TestP7_4Csrs: every CSR by its name and by its number.
func TestP7_4Csrs(t *testing.T) {
	for n := range 4096 {
		raw := 0x00051573 | uint32(n)<<20
		for _, as := range []string{speak.Csr(n), itoa(n), fmt.Sprintf("0x%X", n), fmt.Sprintf("0x%05x", n)} {
			says(t, "csrrw a0, "+as+", a0", ram, raw)
		}
	}
	refuses(t, "csrrw a0, 4096, a0", ram, api.ErrOperand)
	refuses(t, "csrrs a0, 0x1000, a0", ram, api.ErrOperand)
	refuses(t, "csrrsi a0, -1, 0", ram, api.ErrOperand)
}

// TestP7_4Bits: what .word and .half may hold, and what stands there then.
func TestP7_4Bits(t *testing.T) {
	for _, n := range []uint32{3, 7, 0x13, 0x6f, 0xffffffff, 0xfffffffb, 0x8330000f, 0x0000100f, 0x0010100f} {
		says(t, fmt.Sprintf(".word %d", n), ram, n)
		says(t, fmt.Sprintf(".word 0x%X", n), 1, n)
		says(t, fmt.Sprintf(" .word\t0x%020x ", n), last, n)
	}
	for _, n := range []string{"0", "1", "2", "4", "0xfffffffc", "0xfffffffe", "0x100000003", "0x100000000", "4294967296", "4294967299", "-1", "-0xfffffffd", "18446744073709551615", "-9223372036854775808", "0x8000000000000003"} {
		refuses(t, ".word "+n, ram, api.ErrReach)
	}
	for n := range uint32(1 << 16) {
		text := fmt.Sprintf(".half %#x", n)
		if n%4 == 3 {
			refuses(t, text, ram, api.ErrReach)
			continue
		}
		says(t, text, ram, n)
		if in, _ := speak.Parse(text, ram); in != decode.Decode(n) || in.Len != 2 {
			t.Errorf("P7.4: Parse(%q) = %+v", text, in)
		}
	}
	for _, n := range []string{"65536", "65537", "0x10001", "-1", "-2", "3", "0xffff", "18446744073709551614"} {
		refuses(t, ".half "+n, ram, api.ErrReach)
	}
}
