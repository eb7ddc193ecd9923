package csr

// The CSRs' numbers. Where several stand one behind the other, the first one's name has its count.

const (
	numMstatus = 0x300 + iota
	numMisa
	_
	_
	numMie
	numMtvec
	numMcounteren
	_
	_
	_
	numMenvcfg
)

const (
	numMcountinhibit = 0x320 + iota
	_
	_
	numMhpmevent3
)

const (
	numMscratch = 0x340 + iota
	numMepc
	numMcause
	numMtval
	numMip
)

const (
	numPmpcfg0 = 0x3a0 + iota
	_
	numPmpcfg2
)

const numPmpaddr0 = 0x3b0

const (
	numMcycle = 0xb00 + iota
	_
	numMinstret
	numMhpmcounter3
)

const (
	numCycle = 0xc00 + iota
	numTime
	numInstret
	numHpmcounter3
)

const (
	numMvendorid = 0xf11 + iota
	numMarchid
	numMimpid
	numMhartid
	numMconfigptr
)

const (
	// countersInAll is how many counters U may be let read or not: the three that count, and those from hpmcounter3 on.
	countersInAll = 32

	// idleCounters is how many of them, and of their events, are 0 always.
	idleCounters = countersInAll - (numHpmcounter3 - numCycle)
)

// Where a number tells who may reach the CSR, and that it is only read.
const (
	modeShift = 8
	modeBits  = 3
	kindShift = 10
	kindBits  = 3
	readOnly  = 3
)

// modeOf is the lowest mode that reaches the CSR.
func modeOf(num int) int {
	return num >> modeShift & modeBits
}

func isReadOnly(num int) bool {
	return num>>kindShift&kindBits == readOnly
}

// counterOf is the counter that U may be let read by this number; false: it is none.
func counterOf(num int) (int, bool) {
	n := num - numCycle
	if n < 0 || n >= countersInAll {
		return 0, false
	}
	return n, true
}
