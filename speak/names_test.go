package speak_test

import (
	"fmt"
	"math"
	"strings"
	"testing"

	"anvil/speak"
)

func isRegister(t *testing.T, name string, want int) {
	t.Helper()
	if n, is := speak.RegOf(name); n != want || !is {
		t.Errorf("P7.1: RegOf(%q) = %d, %v, want %d, true", name, n, is, want)
	}
}

func isNoRegister(t *testing.T, name string) {
	t.Helper()
	if n, is := speak.RegOf(name); n != 0 || is {
		t.Errorf("P7.1: RegOf(%q) = %d, %v, want 0, false", name, n, is)
	}
}

func isCsr(t *testing.T, name string, want int) {
	t.Helper()
	if n, is := speak.CsrOf(name); n != want || !is {
		t.Errorf("P7.2: CsrOf(%q) = %d, %v, want %d, true", name, n, is, want)
	}
}

func isNoCsr(t *testing.T, name string) {
	t.Helper()
	if n, is := speak.CsrOf(name); n != 0 || is {
		t.Errorf("P7.2: CsrOf(%.80q) = %d, %v, want 0, false", name, n, is)
	}
}

// TestP7_1Reg: the names of all registers, and of numbers beyond.
func TestP7_1Reg(t *testing.T) {
	if len(registers) != 32 {
		t.Fatalf("the model has %d registers", len(registers))
	}
	for n, want := range registers {
		if got := speak.Reg(n); got != want {
			t.Errorf("P7.1: Reg(%d) = %q, want %q", n, got, want)
		}
	}
	for _, n := range []int{-1, -2, -31, -32, 32, 33, 63, 64, 256, 1 << 32, 1<<32 + 1, math.MinInt, math.MaxInt} {
		if got := speak.Reg(n); got != "" {
			t.Errorf("P7.1: Reg(%d) = %q, want none", n, got)
		}
	}
}

// TestP7_1RegOf: each name, and what is nearly one.
func TestP7_1RegOf(t *testing.T) {
	for n, name := range registers {
		isRegister(t, name, n)
		isRegister(t, "x"+itoa(n), n)
		isNoRegister(t, strings.ToUpper(name))
		isNoRegister(t, strings.ToUpper(name[:1])+name[1:])
		isNoRegister(t, "X"+itoa(n))
		isNoRegister(t, "x0"+itoa(n))
		isNoRegister(t, "x-"+itoa(n))
		isNoRegister(t, "x+"+itoa(n))
		isNoRegister(t, itoa(n))
		isNoRegister(t, "x"+itoa(n+32))
		for _, room := range []string{" ", "\t", "\n", "_", ",", "(", "é", "\x00", "\xff"} {
			isNoRegister(t, name+room)
			isNoRegister(t, room+name)
		}
	}
	isRegister(t, "fp", 8)
	for _, name := range []string{"", "x", "f", "FP", "Fp", "x32", "x01", "x00", "x031", "x1f", "x0x1", "x١", "x 1", "a8", "a00", "a01", "s12", "s00", "t7", "ze", "zer", "zeros", "ra0", "pc", "f0", "x18446744073709551616", "x4294967296", "ａ0"} {
		isNoRegister(t, name)
	}
}

// TestP7_2Csr: the names of all numbers, and of those beyond.
func TestP7_2Csr(t *testing.T) {
	named := 0
	for n := range 4096 {
		want, is := csrNames[n]
		if is {
			named++
		} else {
			want = fmt.Sprintf("0x%x", n)
		}
		if got := speak.Csr(n); got != want {
			t.Errorf("P7.2: Csr(%#x) = %q, want %q", n, got, want)
		}
		isCsr(t, want, n)
	}
	if want := 5 + 7 + 29 + 5 + 2 + 16 + 2 + 29 + 3 + 29; named != want {
		t.Errorf("%d CSRs have names, want %d", named, want)
	}
	for _, n := range []int{-1, -2, -4096, 4096, 4097, 8191, 1 << 32, 1<<32 + 0x300, math.MinInt, math.MaxInt} {
		if got := speak.Csr(n); got != "" {
			t.Errorf("P7.2: Csr(%d) = %q, want none", n, got)
		}
	}
	if got := speak.Csr(0); got != "0x0" {
		t.Errorf("P7.2: Csr(0) = %q", got)
	}
}

// TestP7_2CsrOf: each name, each number, and what is nearly one.
func TestP7_2CsrOf(t *testing.T) {
	for n := range 4096 {
		isCsr(t, fmt.Sprintf("%d", n), n)
		isCsr(t, fmt.Sprintf("0x%x", n), n)
		isCsr(t, fmt.Sprintf("0x%X", n), n)
		isCsr(t, fmt.Sprintf("0x%030x", n), n)
		isCsr(t, fmt.Sprintf("%030d", n), n)
		isNoCsr(t, fmt.Sprintf("-%d", n))
		isNoCsr(t, fmt.Sprintf("+%d", n))
		isNoCsr(t, fmt.Sprintf("0X%x", n))
		isNoCsr(t, fmt.Sprintf("%d", n+4096))
		isNoCsr(t, fmt.Sprintf("0x%x", n+4096))
	}
	for name, n := range csrNumbers {
		isCsr(t, name, n)
		isNoCsr(t, strings.ToUpper(name))
		isNoCsr(t, strings.ToUpper(name[:1])+name[1:])
		isNoCsr(t, name+" ")
		isNoCsr(t, " "+name)
		isNoCsr(t, name+"x")
		isNoCsr(t, name[:len(name)-1]+"?")
	}
	for _, name := range []string{
		"", "-", "0x", "-0x", "x", "-0", "-0x0", "-1", "4096", "0x1000", "0xfffff", "18446744073709551616", "18446744073709551615", "0x10000000000000000", "0x10000000000000300", strings.Repeat("9", 500),
		"0xg", "0x1g", "1f", "1_0", "0b1", "1.0", "1e1", "٣", "0x٣",
		"pmpcfg1", "pmpcfg3", "pmpcfg", "pmpaddr", "pmpaddr16", "pmpaddr00", "pmpaddr07", "pmpaddr-1", "mhpmevent2", "mhpmevent03", "mhpmevent32", "mhpmcounter0", "mhpmcounter2", "mhpmcounter32", "hpmcounter2", "hpmcounter32", "hpmcounter", "mhpmevent",
		"sstatus", "satp", "stvec", "fcsr", "mcountinhibit3", "mcycleh", "timeh", "mtime", "mstatush", "tselect", "dcsr",
	} {
		isNoCsr(t, name)
	}
	isCsr(t, "0", 0)
	isCsr(t, "00", 0)
	isCsr(t, "0x0", 0)
	isCsr(t, "0xFfF", 4095)
	isCsr(t, strings.Repeat("0", 500)+"768", 768)
}
