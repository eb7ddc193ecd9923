package save

import (
	"anvil/api"
	"anvil/arith"
)

// joined is sections put together, one behind the other, in new memory.
func joined(sections ...[]byte) []byte {
	size := 0
	for _, s := range sections {
		size += len(s)
	}
	all := make([]byte, size)
	at := 0
	for _, s := range sections {
		at += copy(all[at:], s)
	}
	return all
}

// doubles is the bytes of numbers of 64 bits.
func doubles(values ...uint64) []byte {
	all := make([]byte, len(values)*doubleBytes)
	for i, v := range values {
		copy(all[i*doubleBytes:], arith.Put(v, doubleBytes))
	}
	return all
}

// flag is a truth's byte.
func flag(is bool) byte {
	if is {
		return 1
	}
	return 0
}

// cpuSection is the bytes of a proper Cpu. (Mode and Res.Size of one that is not might have no byte.)
func cpuSection(c api.Cpu) []byte {
	return joined(
		doubles(c.Pc),
		doubles(c.X[:]...),
		[]byte{byte(c.Mode), flag(c.Waiting)},
		doubles(c.Mstatus, c.Mtvec, c.Mie, c.Mcounteren, c.Mcountinhibit, c.Menvcfg),
		doubles(c.Mscratch, c.Mepc, c.Mcause, c.Mtval, c.Mcycle, c.Minstret),
		c.Pmp.Cfg[:],
		doubles(c.Pmp.Addr[:]...),
		[]byte{flag(c.Res.Valid)},
		doubles(c.Res.Addr),
		[]byte{byte(c.Res.Size)},
	)
}

// deviceSection is the bytes of all that a bus keeps but its RAM.
func deviceSection(b api.Bus) []byte {
	return joined(
		arith.Put(uint64(b.Msip), wordBytes),
		doubles(b.Mtimecmp, b.Mtime),
		[]byte{flag(b.Ext), flag(b.Soft), b.Ier, b.Lcr, b.Mcr, b.Scratch, flag(b.Overrun), byte(b.Off)},
		arith.Put(uint64(b.Code), wordBytes),
		arith.Put(uint64(len(b.Input)), byteBytes),
		b.Input,
		arith.Put(uint64(len(b.Output)), halfBytes),
		b.Output,
	)
}

// ramSection is the bytes of RAM: its length, and the pages that are not blank.
func ramSection(ram []byte) []byte {
	sections := [][]byte{arith.Put(uint64(len(ram)), wordBytes)}
	for number := range pageCount(len(ram)) {
		if p := page(ram, number); !isBlank(p) {
			sections = append(sections, arith.Put(uint64(number), halfBytes), p)
		}
	}
	sections = append(sections, arith.Put(noPage, halfBytes))
	return joined(sections...)
}
