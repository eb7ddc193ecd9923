package save

import (
	"anvil/api"
	"anvil/arith"
	"anvil/valid"
)

// reader goes through a snapshot's bytes. Once something is not of the form, misshapen stays set, and nothing that was read counts: so none of its methods has to hand faults on.
type reader struct {
	rest      []byte
	misshapen bool
}

// read makes a whole of what stands between the head and the sum; false: it is not of the form.
func read(b []byte) (api.Whole, bool) {
	r := reader{rest: b}
	var w api.Whole
	w.Cpu = r.cpu()
	w.Bus = r.devices()
	w.Bus.Ram = r.ram()
	return w, !r.misshapen && len(r.rest) == 0
}

// section cuts the next bytes off, so that nothing behind them can be reached through them; zeros, where there are not so many.
func (r *reader) section(size int) []byte {
	if size > len(r.rest) {
		r.misshapen, r.rest = true, nil
		return make([]byte, size)
	}
	cut := r.rest[:size:size]
	r.rest = r.rest[size:]
	return cut
}

// number, single and double are the next number: of so many bytes, of one, of eight.
func (r *reader) number(size int) uint64 { return arith.Take(r.section(size)) }
func (r *reader) single() uint8          { return uint8(r.number(byteBytes)) }
func (r *reader) double() uint64         { return r.number(doubleBytes) }

// flag is the next truth.
func (r *reader) flag() bool {
	v := r.single()
	if v > 1 {
		r.misshapen = true
	}
	return v == 1
}

// list is the next bytes, as many as a number of so many bytes ahead of them tells, in new memory.
func (r *reader) list(size, most int) []byte {
	count := int(r.number(size))
	if count > most {
		r.misshapen = true
		return nil
	}
	all := make([]byte, count)
	copy(all, r.section(count))
	return all
}

// cpu reads a Cpu, be it proper or not.
func (r *reader) cpu() api.Cpu {
	var c api.Cpu
	c.Pc = r.double()
	for i := range c.X {
		c.X[i] = r.double()
	}
	c.Mode = int(r.single())
	c.Waiting = r.flag()
	c.Mstatus = r.double()
	c.Mtvec = r.double()
	c.Mie = r.double()
	c.Mcounteren = r.double()
	c.Mcountinhibit = r.double()
	c.Menvcfg = r.double()
	c.Mscratch = r.double()
	c.Mepc = r.double()
	c.Mcause = r.double()
	c.Mtval = r.double()
	c.Mcycle = r.double()
	c.Minstret = r.double()
	copy(c.Pmp.Cfg[:], r.section(len(c.Pmp.Cfg)))
	for i := range c.Pmp.Addr {
		c.Pmp.Addr[i] = r.double()
	}
	c.Res.Valid = r.flag()
	c.Res.Addr = r.double()
	c.Res.Size = int(r.single())
	return c
}

// devices reads all that a bus keeps but its RAM, be it a state that can be or not.
func (r *reader) devices() api.Bus {
	var b api.Bus
	b.Msip = uint32(r.number(wordBytes))
	b.Mtimecmp = r.double()
	b.Mtime = r.double()
	b.Ext = r.flag()
	b.Soft = r.flag()
	b.Ier = r.single()
	b.Lcr = r.single()
	b.Mcr = r.single()
	b.Scratch = r.single()
	b.Overrun = r.flag()
	b.Off = int(r.single())
	b.Code = int(r.number(wordBytes))
	b.Input = r.list(byteBytes, api.MaxInput)
	b.Output = r.list(halfBytes, api.MaxOutput)
	return b
}

// ram reads the RAM: its length, and the pages that are not blank, whose numbers rise.
func (r *reader) ram() []byte {
	size := r.number(wordBytes)
	if !valid.Ram(size) {
		r.misshapen = true
		return nil
	}
	ram := make([]byte, size)
	least := 0
	for {
		number := int(r.number(halfBytes))
		if number == noPage || r.misshapen {
			return ram
		}
		if number < least || number >= pageCount(len(ram)) {
			r.misshapen = true
			return ram
		}
		least = number + 1
		r.page(page(ram, number))
	}
}

// page reads the bytes of a page into their place.
func (r *reader) page(place []byte) {
	copy(place, r.section(len(place)))
	if isBlank(place) {
		r.misshapen = true
	}
}
