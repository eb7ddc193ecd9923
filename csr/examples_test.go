package csr_test

import (
	"testing"

	"anvil/api"
	"anvil/csr"
)

// The examples of section 9.5, by their numbers.

func machine() api.Cpu { return api.Cpu{Mode: api.M} }

func TestExample1OfCsr(t *testing.T) {
	same(t, "Proper of the zero Cpu", csr.Proper(api.Cpu{}), api.Cpu{Mstatus: 0x200000000})
	same(t, "Proper of Mstatus all bits 1", csr.Proper(api.Cpu{Mstatus: ones}), api.Cpu{Mstatus: 0x200221888})
}

func TestExample2OfCsr(t *testing.T) {
	c := write(t, machine(), 0x300, 0x1800)
	read(t, c, 0x300, 0x200001800)
	c = write(t, c, 0x300, 0x0800)
	read(t, c, 0x300, 0x200001800)
	c = write(t, c, 0x300, 0)
	read(t, c, 0x300, 0x200000000)
}

func TestExample3OfCsr(t *testing.T) {
	read(t, write(t, machine(), 0x305, 7), 0x305, 5)
	read(t, write(t, machine(), 0x341, 5), 0x341, 4)
	read(t, write(t, machine(), 0x304, ones), 0x304, 0x888)
	read(t, write(t, machine(), 0x306, ones), 0x306, 7)
	read(t, write(t, machine(), 0x320, ones), 0x320, 5)
	read(t, write(t, machine(), 0x30a, ones), 0x30a, 1)
	read(t, write(t, machine(), 0x301, 0), 0x301, 0x8000000000101105)
}

func TestExample4OfCsr(t *testing.T) {
	noWrite(t, machine(), 0xc00, 1)
	noWrite(t, machine(), 0xf14, 0)
	read(t, machine(), 0xf13, 1)
	noRead(t, machine(), 0x3a1)
	read(t, machine(), 0x3a0, 0)
	for _, num := range []int{0x100, 0x7a0, 4096, -1} {
		noRead(t, machine(), num)
	}
}

func TestExample5OfCsr(t *testing.T) {
	noRead(t, api.Cpu{}, 0xc00)
	read(t, api.Cpu{Mcounteren: 1}, 0xc00, 0)
	for low := range uint64(8) {
		noRead(t, api.Cpu{Mcounteren: low}, 0xc03)
	}
	noRead(t, api.Cpu{Mcounteren: ones}, 0xc03)
	noRead(t, api.Cpu{}, 0x300)
	noWrite(t, api.Cpu{}, 0x300, 0)
}

func TestExample6OfCsr(t *testing.T) {
	read(t, machine(), 0x344, 0x888)
	read(t, machine(), 0xc01, 9)
}

func TestExample7OfCsr(t *testing.T) {
	c := csr.Count(api.Cpu{Mcycle: ones}, api.Cpu{}, false, false, false)
	same(t, "Count at the last number", c, api.Cpu{Mstatus: uxl})
	c = csr.Count(api.Cpu{Mcycle: 6}, api.Cpu{Mcountinhibit: 1}, false, false, false)
	same(t, "Count of an inhibited Mcycle", c, api.Cpu{Mstatus: uxl, Mcycle: 6})
	c = csr.Count(api.Cpu{Minstret: 6}, api.Cpu{}, true, false, true)
	same(t, "Count of a written Minstret", c, api.Cpu{Mstatus: uxl, Mcycle: 1, Minstret: 6})
}
