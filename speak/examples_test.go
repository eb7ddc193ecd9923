package speak_test

import (
	"slices"
	"testing"

	"anvil/api"
	"anvil/speak"
)

// TestExample1: the first example of section 7.8.
func TestExample1(t *testing.T) {
	tells(t, 0x00000013, ram, "addi zero, zero, 0")
	tells(t, 0xfff50513, ram, "addi a0, a0, -1")
	tells(t, 0x00a5a023, ram, "sw a0, 0(a1)")
	tells(t, 0x123452b7, ram, "lui t0, 0x12345")
	tells(t, 0x0000006f, ram, "jal zero, 0x80000000")
	tells(t, 0xfe000ee3, ram, "beq zero, zero, 0x7ffffffc")
	tells(t, 0x30002573, ram, "csrrs a0, mstatus, zero")
	tells(t, 0x0ff0000f, ram, "fence iorw, iorw")
	tells(t, 0x0000000f, ram, "fence 0, 0")
	tells(t, 0x8330000f, ram, ".word 0x8330000f")
	tells(t, 0xffffffff, ram, ".word 0xffffffff")
}

// TestExample2: the second one.
func TestExample2(t *testing.T) {
	tells(t, 0x0505, ram, "c.addi a0, 1")
	tells(t, 0x0001, ram, "c.nop")
	tells(t, 0x0005, ram, "c.nop 1")
	tells(t, 0x4505, ram, "c.li a0, 1")
	tells(t, 0x4008, ram, "c.lw a0, 0(s0)")
	tells(t, 0x8082, ram, "c.jr ra")
	tells(t, 0x9002, ram, "c.ebreak")
	tells(t, 0x852e, ram, "c.mv a0, a1")
	tells(t, 0x0000, ram, ".half 0x0000")
	tells(t, 0x6105, ram, "c.addi16sp sp, 32")
	tells(t, 0x757d, ram, "c.lui a0, 0xfffff")
	tells(t, 0xa001, ram, "c.j 0x80000000")
}

// TestExample3: the third one.
func TestExample3(t *testing.T) {
	says(t, "  addi\ta0 ,x10,0xffffffffffffffff ", ram, 0xfff50513)
	refuses(t, "addi a0, a0", ram, api.ErrOperand)
	refuses(t, "addi a0, a0, 2048", ram, api.ErrReach)
	refuses(t, "Addi a0, a0, 0", ram, api.ErrWord)
	refuses(t, "", ram, api.ErrWord)
	refuses(t, "lw a0, (a1)", ram, api.ErrOperand)
	says(t, "lw a0, 0 ( a1 )", ram, 0x0005a503)
	refuses(t, "lr.w a0, 0(a1)", ram, api.ErrOperand)
	refuses(t, "c.addi zero, 1", ram, api.ErrOperand)
	refuses(t, "c.lw a0, 2(s0)", ram, api.ErrReach)
	refuses(t, "jal zero, 0x80100000", ram, api.ErrReach)
	says(t, "jal zero, 0x80100000", ram+2, 0x7ffff06f)
	says(t, "fence wr, 0", ram, 0x0300000f)
	tells(t, 0x0300000f, ram, "fence rw, 0")
	refuses(t, "fence ww, 0", ram, api.ErrOperand)
	refuses(t, "ecall 1", ram, api.ErrOperand)
	refuses(t, ".half 3", ram, api.ErrReach)
}

// TestExample4: the fourth one.
func TestExample4(t *testing.T) {
	isCsr(t, "0x300", 768)
	isCsr(t, "768", 768)
	isNoCsr(t, "-0")
	isNoCsr(t, "0x1000")
	if got := speak.Csr(0x123); got != "0x123" {
		t.Errorf("Csr(0x123) = %q", got)
	}
	isNoRegister(t, "x32")
	isNoRegister(t, "x01")
	isNoRegister(t, "A0")
	isRegister(t, "fp", 8)
}

// TestExample5: the fifth one.
func TestExample5(t *testing.T) {
	for _, c := range []struct {
		b    []byte
		want []string
	}{
		{[]byte{0x05, 0x05, 0x13, 0, 0, 0, 3}, []string{"c.addi a0, 1", "addi zero, zero, 0", ".byte 0x03"}},
		{[]byte{3, 0, 1}, []string{".half 0x0003", ".byte 0x01"}},
	} {
		if got := speak.List(c.b, ram); !slices.Equal(got, c.want) {
			t.Errorf("List(%x) = %q, want %q", c.b, got, c.want)
		}
	}
}
