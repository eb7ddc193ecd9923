package watch

import (
	"bytes"

	"anvil/api"
)

// The bits of mip, and of the registers that raise them.
const (
	softwareBit = 1 << 3
	timerBit    = 1 << 7
	externalBit = 1 << 11
	msipBit     = 1
	inputBit    = 1
)

// mip is the interrupts that a bus has up. The bus may be any: bits that can't be don't count.
func mip(s api.Bus) uint64 {
	up := uint64(0)
	if s.Msip&msipBit != 0 || s.Soft {
		up |= softwareBit
	}
	if s.Mtime >= s.Mtimecmp {
		up |= timerBit
	}
	if s.Ext || s.Ier&inputBit != 0 && len(s.Input) > 0 {
		up |= externalBit
	}
	return up
}

// sent tells whether the console's output is what it was, or, where the row stores to its data alone, has the number that was stored as one more byte. Nothing need be sent there: the console may be full.
func sent(was, is []byte, stored place, data uint64) bool {
	if bytes.Equal(was, is) {
		return true
	}
	return stored == place{api.UartBase, byteBytes} && len(is) == len(was)+1 &&
		bytes.HasPrefix(is, was) && uint64(is[len(was)]) == data
}

// sameDevices tells whether two buses are the same in all but RAM.
func sameDevices(a, b api.Bus) bool {
	return sameTimer(a, b) && sameConsole(a, b) && a.Ext == b.Ext && a.Soft == b.Soft && a.Off == b.Off && a.Code == b.Code
}

func sameTimer(a, b api.Bus) bool {
	return a.Msip == b.Msip && a.Mtimecmp == b.Mtimecmp && a.Mtime == b.Mtime
}

func sameConsole(a, b api.Bus) bool {
	return a.Ier == b.Ier && a.Lcr == b.Lcr && a.Mcr == b.Mcr && a.Scratch == b.Scratch && a.Overrun == b.Overrun &&
		bytes.Equal(a.Input, b.Input) && bytes.Equal(a.Output, b.Output)
}

// sameWhole tells whether two wholes are the same in everything.
func sameWhole(a, b api.Whole) bool {
	return a.Cpu == b.Cpu && sameDevices(a.Bus, b.Bus) && bytes.Equal(a.Bus.Ram, b.Bus.Ram)
}
