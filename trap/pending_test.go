package trap_test

import (
	"testing"

	"anvil/api"
	"anvil/trap"
)

// firstOf is which of the bits 3, 7 and 11 counts, written out for every combination (0: none).
func firstOf(both uint64) int {
	switch both {
	case 0x008, 0x088:
		return 3
	case 0x080:
		return 7
	case 0x800, 0x808, 0x880, 0x888:
		return 11
	}
	return 0
}

// TestP10_1Combinations: every combination of the three bits in mip and in Mie, alone and among all that does not count.
func TestP10_1Combinations(t *testing.T) {
	for _, mip := range lines() {
		for _, enabled := range lines() {
			for _, noise := range noises() {
				for _, c := range []api.Cpu{{}, full()} {
					c.Mie = enabled | noise
					holdPending(t, c, mip|noise, firstOf(mip&enabled))
				}
			}
		}
	}
}

// holdPending: n is pending in U, and in M with MIE; else nothing is; whether the hart waits or not.
func holdPending(t *testing.T, c api.Cpu, mip uint64, n int) {
	t.Helper()
	for _, c.Waiting = range []bool{false, true} {
		for _, c.Mode = range modes() {
			for _, status := range []uint64{0, mpie | mpp | mprv | tw, ones &^ mie} {
				for _, c.Mstatus = range []uint64{status, status | mie} {
					if n == 0 || c.Mode == api.M && c.Mstatus&mie == 0 {
						noPending(t, c, mip)
					} else {
						pending(t, c, mip, n)
					}
				}
			}
		}
	}
}

// TestP10_1Bits: each bit of mip and of Mie alone, against all of the other.
func TestP10_1Bits(t *testing.T) {
	for n := range 64 {
		c := hart(api.M, mie)
		c.Mie = ones
		d := c
		d.Mie = 1 << n
		if n == 3 || n == 7 || n == 11 {
			pending(t, c, 1<<n, n)
			pending(t, d, ones, n)
		} else {
			noPending(t, c, 1<<n)
			noPending(t, d, ones)
		}
	}
}

// TestP10_1Alone: what is set in one of mip and Mie alone is not pending.
func TestP10_1Alone(t *testing.T) {
	for _, mip := range lines() {
		c := hart(api.U, 0)
		c.Mie = ^mip
		noPending(t, c, mip)
	}
}

// TestP10_7Behind: behind Enter nothing is pending, whatever mip is.
func TestP10_7Behind(t *testing.T) {
	r := random(4)
	for _, c := range someCpus(5, 2000) {
		d := trap.Enter(c, anyWord(r), anyWord(r))
		for _, mip := range append(lines(), ones, anyWord(r)) {
			noPending(t, d, mip)
		}
	}
}

// TestP10_7Until: it comes again with MIE, in U, or behind the Return, and not by anything else.
func TestP10_7Until(t *testing.T) {
	c := hart(api.U, 0)
	c.Mie = 0x888
	c = trap.Enter(c, 8, 0)
	d := c
	d.Mstatus |= mpie | mpp | mprv | tw
	d.Waiting = true
	noPending(t, d, ones)
	d.Mstatus |= mie
	pending(t, d, ones, 11)
	d = c
	d.Mode = api.U
	pending(t, d, 0x80, 7)
	pending(t, back(t, c), 0x8, 3)
	inner := trap.Enter(c, 2, 0)
	noPending(t, inner, ones)
	noPending(t, back(t, inner), ones)
}

// after is the bits that may join where n is pending, of those that count.
func after(n int) uint64 {
	switch n {
	case 11:
		return 0x888
	case 3:
		return 0x88
	}
	return 0x80
}

// TestP10_9Added: what is pending stays it, whatever bits are added to mip and Mie that are none of those ahead of it.
func TestP10_9Added(t *testing.T) {
	for _, mip := range lines() {
		for _, enabled := range lines() {
			c := hart(api.U, 0)
			c.Mie = enabled
			n, is := trap.Pending(c, mip)
			if !is {
				continue
			}
			for _, more := range lines() {
				for _, noise := range noises() {
					d := c
					add := more&after(n) | noise
					pending(t, c, mip|add, n)
					d.Mie |= add
					pending(t, d, mip, n)
					pending(t, d, mip|add, n)
				}
			}
		}
	}
}

// TestP10_9Ahead: one that is ahead goes ahead as soon as it is in both.
func TestP10_9Ahead(t *testing.T) {
	c := hart(api.M, mie)
	c.Mie = 0x80
	pending(t, c, 0x80, 7)
	pending(t, c, 0x888, 7)
	c.Mie |= 8
	pending(t, c, 0x80, 7)
	pending(t, c, 0x88, 3)
	c.Mie |= 0x800
	pending(t, c, 0x88, 3)
	pending(t, c, 0x888, 11)
	pending(t, c, 0x880, 11)
}

func TestP10_9Any(t *testing.T) {
	r := random(6)
	for _, c := range someCpus(7, 20000) {
		mip := anyWord(r)
		n, is := trap.Pending(c, mip)
		if !is {
			continue
		}
		allowed := ^uint64(0x888) | after(n)
		c.Mie |= anyWord(r) & allowed
		pending(t, c, mip|anyWord(r)&allowed, n)
	}
}
