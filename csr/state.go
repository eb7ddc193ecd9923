package csr

import "anvil/api"

// What CSRs that never change tell.
const (
	isa            = 0x8000000000101105 // 64 bits, and the bits of the letters A, C, I, M and U
	implementation = 1
)

// csrsInAll is room for the CSRs: making their map is most of what a call does.
const csrsInAll = 127

// state is all that the CSRs tell of: a Cpu, proper always, and the bus's mip and time.
type state struct {
	cpu       api.Cpu
	mip, time uint64
}

// mayRead tells whether the Cpu's mode may read a CSR of such a number, whether there is one or not.
func (s *state) mayRead(num int) bool {
	n, counts := counterOf(num)
	if s.cpu.Mode == api.U && counts && s.cpu.Mcounteren>>n&1 == 0 {
		return false
	}
	return s.cpu.Mode >= modeOf(num)
}

// mayWrite tells whether the Cpu's mode may write a CSR of such a number, whether there is one or not.
func (s *state) mayWrite(num int) bool {
	return s.cpu.Mode >= modeOf(num) && !isReadOnly(num)
}

// registers is the CSRs that there are, by number.
func (s *state) registers() map[int]register {
	all := make(map[int]register, csrsInAll)
	s.addMachine(all)
	s.addProtection(all)
	s.addCounters(all)
	addIdle(all)
	return all
}

// addMachine adds what says how the hart runs, and what it keeps of a trap.
func (s *state) addMachine(all map[int]register) {
	c := &s.cpu
	all[numMstatus] = status{&c.Mstatus}.register()
	all[numMisa] = told(isa).register()
	all[numMie] = word{&c.Mie, interruptBits}.register()
	all[numMtvec] = word{&c.Mtvec, vectorBits}.register()
	all[numMcounteren] = word{&c.Mcounteren, enableBits}.register()
	all[numMenvcfg] = word{&c.Menvcfg, envcfgBits}.register()
	all[numMcountinhibit] = word{&c.Mcountinhibit, inhibitBits}.register()
	all[numMscratch] = word{&c.Mscratch, everyBit}.register()
	all[numMepc] = word{&c.Mepc, evenBits}.register()
	all[numMcause] = word{&c.Mcause, everyBit}.register()
	all[numMtval] = word{&c.Mtval, everyBit}.register()
	all[numMip] = told(s.mip & interruptBits).register()
	all[numMimpid] = told(implementation).register()
}

// addProtection adds the entries of memory protection.
func (s *state) addProtection(all map[int]register) {
	p := &s.cpu.Pmp
	all[numPmpcfg0] = config{p, 0}.register()
	all[numPmpcfg2] = config{p, 2}.register()
	for i := range p.Addr {
		all[numPmpaddr0+i] = address{p, i}.register()
	}
}

// addCounters adds the counters that count, by the names that M and U have for them.
func (s *state) addCounters(all map[int]register) {
	c := &s.cpu
	all[numMcycle] = word{&c.Mcycle, everyBit}.register()
	all[numMinstret] = word{&c.Minstret, everyBit}.register()
	all[numCycle] = told(c.Mcycle).register()
	all[numTime] = told(s.time).register()
	all[numInstret] = told(c.Minstret).register()
}

// addIdle adds the CSRs that are 0 always.
func addIdle(all map[int]register) {
	idle := told(0).register()
	for n := range idleCounters {
		all[numMhpmevent3+n] = idle
		all[numMhpmcounter3+n] = idle
		all[numHpmcounter3+n] = idle
	}
	all[numMvendorid] = idle
	all[numMarchid] = idle
	all[numMhartid] = idle
	all[numMconfigptr] = idle
}
