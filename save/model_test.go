package save_test

import (
	"bytes"
	"encoding/binary"
	"hash/crc32"
	"io"

	"anvil/api"
)

// The model reads and writes snapshots once more, by the library's fixed-size structs and its cyclic check, from section 16.2 and nothing else: it calls no layer.

// cpuPart is part 2 of a snapshot.
type cpuPart struct {
	Pc            uint64
	X             [32]uint64
	Mode, Waiting uint8

	Mstatus, Mtvec, Mie, Mcounteren, Mcountinhibit, Menvcfg uint64
	Mscratch, Mepc, Mcause, Mtval, Mcycle, Minstret         uint64

	Cfg     [16]uint8
	Addr    [16]uint64
	Valid   uint8
	ResAddr uint64
	ResSize uint8
}

// devicePart is part 3 of a snapshot, up to Input.
type devicePart struct {
	Msip                                              uint32
	Mtimecmp, Mtime                                   uint64
	Ext, Soft, Ier, Lcr, Mcr, Scratch, Overrun, Power uint8
	Code                                              uint32
}

// pagePart is a page as a snapshot tells it.
type pagePart struct {
	number uint16
	data   []byte
}

// draft is a snapshot in pieces, whether Load takes it or not.
type draft struct {
	head    []byte
	cpu     cpuPart
	devices devicePart
	inputs  uint8
	input   []byte
	outputs uint16
	output  []byte
	size    uint32
	pages   []pagePart
	end     []byte // the half behind the pages, and what stands behind it
	keep    int    // if it is not 0: how many bytes ahead of the sum are left
	turn    uint32 // which bits of the right sum are turned
}

// summed is bytes with their sum behind them.
func summed(b []byte) []byte {
	return binary.LittleEndian.AppendUint32(bytes.Clone(b), crc32.ChecksumIEEE(b))
}

// resummed is a snapshot with its sum put right.
func resummed(b []byte) []byte { return summed(b[:len(b)-4]) }

// bytes is the draft put together.
func (d draft) bytes() []byte {
	var b bytes.Buffer
	put := func(v any) { binary.Write(&b, binary.LittleEndian, v) }
	for _, v := range []any{d.head, d.cpu, d.devices, d.inputs, d.input, d.outputs, d.output, d.size} {
		put(v)
	}
	for _, p := range d.pages {
		put(p.number)
		put(p.data)
	}
	put(d.end)
	all := b.Bytes()
	if d.keep != 0 {
		all = all[:d.keep]
	}
	sum := crc32.ChecksumIEEE(all) ^ d.turn
	return binary.LittleEndian.AppendUint32(all, sum)
}

func flagOf(is bool) uint8 {
	if is {
		return 1
	}
	return 0
}

// drafted is the draft of a whole that can be; its Cpu is made proper.
func drafted(w api.Whole) draft {
	c, b := proper(w.Cpu), w.Bus
	d := draft{
		head: []byte{0x41, 0x4e, 0x56, 0x49, 0x4c, 0x53, 0x01, 0x5a},
		cpu: cpuPart{
			c.Pc, c.X, uint8(c.Mode), flagOf(c.Waiting),
			c.Mstatus, c.Mtvec, c.Mie, c.Mcounteren, c.Mcountinhibit, c.Menvcfg,
			c.Mscratch, c.Mepc, c.Mcause, c.Mtval, c.Mcycle, c.Minstret,
			c.Pmp.Cfg, c.Pmp.Addr, flagOf(c.Res.Valid), c.Res.Addr, uint8(c.Res.Size),
		},
		devices: devicePart{
			b.Msip, b.Mtimecmp, b.Mtime, flagOf(b.Ext), flagOf(b.Soft),
			b.Ier, b.Lcr, b.Mcr, b.Scratch, flagOf(b.Overrun), uint8(b.Off), uint32(b.Code),
		},
		inputs: uint8(len(b.Input)), input: b.Input,
		outputs: uint16(len(b.Output)), output: b.Output,
		size: uint32(len(b.Ram)),
		end:  []byte{0xff, 0xff},
	}
	for from := 0; from < len(b.Ram); from += 256 {
		data := b.Ram[from:min(from+256, len(b.Ram))]
		if bytes.Count(data, []byte{0}) < len(data) {
			d.pages = append(d.pages, pagePart{uint16(from / 256), data})
		}
	}
	return d
}

// proper is a Cpu made proper, by C1.
func proper(c api.Cpu) api.Cpu {
	c.Pc, c.Mepc, c.X[0] = c.Pc&^1, c.Mepc&^1, 0
	if c.Mode != 3 {
		c.Mode = 0
	}
	status := c.Mstatus&0x220088 | uxl
	if c.Mstatus&0x1800 == 0x1800 {
		status |= 0x1800
	}
	c.Mstatus, c.Mtvec, c.Mie, c.Mcounteren = status, c.Mtvec&^2, c.Mie&0x888, c.Mcounteren&7
	c.Mcountinhibit, c.Menvcfg = c.Mcountinhibit&5, c.Menvcfg&1
	for i := range 16 {
		c.Pmp.Addr[i] &= 1<<54 - 1
		if c.Pmp.Cfg[i] &= 0x9f; c.Pmp.Cfg[i]&3 == 2 {
			c.Pmp.Cfg[i] -= 2
		}
	}
	if s := c.Res.Size; !c.Res.Valid || s != 4 && s != 8 || c.Res.Addr%uint64(s) != 0 {
		c.Res = api.Res{}
	}
	return c
}

// isProper is DOC.md's paragraph "Proper", sentence by sentence.
func isProper(c api.Cpu) bool {
	mpp := c.Mstatus >> 11 & 3
	is := c.Pc%2 == 0 && c.X[0] == 0 && (c.Mode == 0 || c.Mode == 3)
	is = is && c.Mstatus&^0x221888 == uxl && (mpp == 0 || mpp == 3)
	is = is && c.Mtvec&2 == 0 && c.Mie&^0x888 == 0 && c.Mcounteren < 8 && c.Mcountinhibit&^5 == 0 && c.Menvcfg < 2 && c.Mepc%2 == 0
	for i := range 16 {
		cfg := c.Pmp.Cfg[i]
		is = is && cfg&0x60 == 0 && cfg&3 != 2 && c.Pmp.Addr[i] < 1<<54
	}
	if !c.Res.Valid {
		return is && c.Res.Addr == 0 && c.Res.Size == 0
	}
	return is && (c.Res.Size == 4 || c.Res.Size == 8) && c.Res.Addr%uint64(c.Res.Size) == 0
}

// canBe is section 3.1, field by field.
func canBe(b api.Bus) bool {
	power := (b.Off == 0 || b.Off == 1) && b.Code == 0 || b.Off == 2 && b.Code >= 0 && b.Code <= 65535
	size := len(b.Ram)
	return size%8 == 0 && size >= 8 && size <= maxRam && b.Msip <= 1 && b.Ier <= 15 && b.Mcr <= 31 &&
		len(b.Input) <= maxInput && len(b.Output) <= maxOutput && power
}

// modelLoad is P16.3.
func modelLoad(b []byte) (api.Whole, api.Errno) {
	if len(b) < 12 || len(b) > maxSave || !bytes.HasPrefix(b, []byte{0x41, 0x4e, 0x56, 0x49, 0x4c, 0x53, 0x01, 0x5a}) {
		return api.Whole{}, api.ErrShape
	}
	body := b[:len(b)-4]
	if binary.LittleEndian.Uint32(b[len(body):]) != crc32.ChecksumIEEE(body) {
		return api.Whole{}, api.ErrSum
	}
	w, is := dissected(body[8:])
	if !is {
		return api.Whole{}, api.ErrShape
	}
	if !isProper(w.Cpu) || !canBe(w.Bus) {
		return api.Whole{}, api.ErrWhole
	}
	return w, api.OK
}

// dissected is the whole that parts 2 to 4 tell; false, if they are not of the form.
func dissected(b []byte) (api.Whole, bool) {
	from := bytes.NewReader(b)
	get := func(v any) bool { return binary.Read(from, binary.LittleEndian, v) == nil }
	var d draft
	if !get(&d.cpu) || !get(&d.devices) || !get(&d.inputs) || d.inputs > maxInput {
		return api.Whole{}, false
	}
	d.input = make([]byte, d.inputs)
	if _, err := io.ReadFull(from, d.input); err != nil || !get(&d.outputs) || d.outputs > maxOutput {
		return api.Whole{}, false
	}
	d.output = make([]byte, d.outputs)
	if _, err := io.ReadFull(from, d.output); err != nil || !get(&d.size) || d.size%8 != 0 || d.size < 8 || d.size > maxRam {
		return api.Whole{}, false
	}
	for _, f := range []uint8{d.cpu.Waiting, d.cpu.Valid, d.devices.Ext, d.devices.Soft, d.devices.Overrun} {
		if f > 1 {
			return api.Whole{}, false
		}
	}
	cells := make([]byte, d.size)
	for last := -1; ; {
		var number uint16
		if !get(&number) {
			return api.Whole{}, false
		}
		if number == 0xffff {
			return d.whole(cells), from.Len() == 0
		}
		at := int(number) * 256
		if int(number) <= last || at >= len(cells) {
			return api.Whole{}, false
		}
		last = int(number)
		data := cells[at:min(at+256, len(cells))]
		if _, err := io.ReadFull(from, data); err != nil || bytes.Equal(data, make([]byte, len(data))) {
			return api.Whole{}, false
		}
	}
}

// whole is what a draft tells, with this RAM.
func (d draft) whole(cells []byte) api.Whole {
	c, b := d.cpu, d.devices
	return api.Whole{
		Cpu: api.Cpu{
			Pc: c.Pc, X: c.X, Mode: int(c.Mode), Waiting: c.Waiting == 1,
			Mstatus: c.Mstatus, Mtvec: c.Mtvec, Mie: c.Mie, Mcounteren: c.Mcounteren, Mcountinhibit: c.Mcountinhibit, Menvcfg: c.Menvcfg,
			Mscratch: c.Mscratch, Mepc: c.Mepc, Mcause: c.Mcause, Mtval: c.Mtval, Mcycle: c.Mcycle, Minstret: c.Minstret,
			Pmp: api.Pmp{Cfg: c.Cfg, Addr: c.Addr},
			Res: api.Res{Valid: c.Valid == 1, Addr: c.ResAddr, Size: int(c.ResSize)},
		},
		Bus: api.Bus{
			Ram: cells, Msip: b.Msip, Mtimecmp: b.Mtimecmp, Mtime: b.Mtime, Ext: b.Ext == 1, Soft: b.Soft == 1,
			Ier: b.Ier, Lcr: b.Lcr, Mcr: b.Mcr, Scratch: b.Scratch, Overrun: b.Overrun == 1,
			Input: d.input, Output: d.output, Off: int(b.Power), Code: int(b.Code),
		},
	}
}
