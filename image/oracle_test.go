package image_test

import (
	"bytes"
	"encoding/binary"
	"math/big"
	"regexp"
	"sort"
	"unicode/utf8"

	"anvil/api"
)

// oracle reads a file by section 2.2 once more, step by step and by other means than the program: whole numbers without bound, a regular expression.
type oracle struct {
	b   []byte
	im  api.Image
	at  int
	why api.Errno
}

func (o *oracle) half(at int) uint64   { return uint64(binary.LittleEndian.Uint16(o.b[at:])) }
func (o *oracle) word(at int) uint64   { return uint64(binary.LittleEndian.Uint32(o.b[at:])) }
func (o *oracle) double(at int) uint64 { return binary.LittleEndian.Uint64(o.b[at:]) }

func (o *oracle) room(place, size uint64) bool {
	end := new(big.Int).SetUint64(place)
	end.Add(end, new(big.Int).SetUint64(size))
	return end.Cmp(big.NewInt(int64(len(o.b)))) <= 0
}

// bad notes the first fault and tells that there is one.
func (o *oracle) bad(is bool, why api.Errno, at int) bool {
	if is {
		o.why, o.at = why, at
	}
	return is
}

func ask(b []byte) *oracle {
	o := &oracle{b: b}
	if !o.head() || !o.programs() || !o.sections() {
		o.im = api.Image{}
	}
	return o
}

func (o *oracle) head() bool {
	if o.bad(len(o.b) > 200000, api.ErrLong, 200000) {
		return false
	}
	for i, want := range []byte{0x7f, 0x45, 0x4c, 0x46, 2, 1, 1} {
		if o.bad(len(o.b) <= i, api.ErrEnd, len(o.b)) || o.bad(o.b[i] != want, api.ErrMagic, i) {
			return false
		}
	}
	if o.bad(len(o.b) < 64, api.ErrEnd, len(o.b)) {
		return false
	}
	o.im.Entry = o.double(24)
	n := o.half(56)
	return !(o.bad(o.half(16) != 2, api.ErrMagic, 16) ||
		o.bad(o.half(18) != 243, api.ErrMagic, 18) ||
		o.bad(o.word(20) != 1, api.ErrMagic, 20) ||
		o.bad(o.b[24]&1 == 1, api.ErrHeader, 24) ||
		o.bad(o.word(48) != 0 && o.word(48) != 1, api.ErrHeader, 48) ||
		o.bad(o.half(52) != 64, api.ErrHeader, 52) ||
		o.bad(n != 0 && o.half(54) != 56, api.ErrHeader, 54) ||
		o.bad(n > 16, api.ErrMany, 56) ||
		o.bad(!o.room(o.double(32), 56*n), api.ErrEnd, 32))
}

func (o *oracle) programs() bool {
	for i := range int(o.half(56)) {
		h := int(o.double(32)) + 56*i
		if o.word(h) != 1 || o.double(h+40) == 0 && o.double(h+32) == 0 {
			continue
		}
		addr, size, length := o.double(h+24), o.double(h+40), o.double(h+32)
		end := new(big.Int).Add(new(big.Int).SetUint64(addr), new(big.Int).SetUint64(size))
		if o.bad(o.word(h+4) > 7, api.ErrSegment, h+4) ||
			o.bad(length > size, api.ErrSegment, h+32) ||
			o.bad(!o.room(o.double(h+8), length), api.ErrEnd, h+8) ||
			o.bad(end.BitLen() > 64 && end.Cmp(new(big.Int).Lsh(big.NewInt(1), 64)) != 0, api.ErrSegment, h+24) {
			return false
		}
		for _, s := range o.im.Segs {
			low, high := max(s.Addr, addr), min(s.Addr+s.Size-1, addr+size-1)
			if o.bad(low <= high, api.ErrOverlap, h+24) {
				return false
			}
		}
		flags := []int{0, api.X, api.W, api.W + api.X, api.R, api.R + api.X, api.R + api.W, api.R + api.W + api.X}[o.word(h+4)]
		o.im.Segs = append(o.im.Segs, api.Seg{Addr: addr, Size: size, Flags: flags, Data: o.b[o.double(h+8):][:length]})
	}
	sort.Slice(o.im.Segs, func(i, j int) bool { return o.im.Segs[i].Addr < o.im.Segs[j].Addr })
	return true
}

func (o *oracle) sections() bool {
	k := o.half(60)
	if k == 0 || o.double(40) == 0 {
		return true
	}
	if o.bad(o.half(58) != 64, api.ErrHeader, 58) || o.bad(!o.room(o.double(40), 64*k), api.ErrEnd, 40) {
		return false
	}
	place := int(o.double(40))
	for s := place; s < place+64*int(k); s += 64 {
		if o.word(s+4) == 2 {
			return o.table(place, s, k)
		}
	}
	return true
}

func (o *oracle) table(place, s int, k uint64) bool {
	size := o.double(s + 32)
	if o.bad(o.double(s+56) != 24, api.ErrSymbol, s+56) ||
		o.bad(size%24 != 0, api.ErrSymbol, s+32) ||
		o.bad(!o.room(o.double(s+24), size), api.ErrEnd, s+24) ||
		o.bad(o.word(s+40) >= k, api.ErrSymbol, s+40) {
		return false
	}
	x := place + 64*int(o.word(s+40))
	if o.bad(o.word(x+4) != 3, api.ErrSymbol, s+40) || o.bad(!o.room(o.double(x+24), o.double(x+32)), api.ErrEnd, x+24) {
		return false
	}
	texts := o.b[o.double(x+24):][:o.double(x+32)]
	for i := 1; i < int(size/24); i++ {
		if !o.entry(int(o.double(s+24))+24*i, texts) {
			return false
		}
	}
	sort.Slice(o.im.Syms, func(i, j int) bool {
		a, b := o.im.Syms[i], o.im.Syms[j]
		return a.Value < b.Value || a.Value == b.Value && a.Name < b.Name
	})
	return true
}

var nameForm = regexp.MustCompile(`^[\pL_.][\pL0-9_.$]{0,39}$`)

func (o *oracle) entry(y int, texts []byte) bool {
	at := o.word(y)
	if o.bad(at >= uint64(len(texts)), api.ErrSymbol, y) || o.bad(!bytes.Contains(texts[at:], []byte{0}), api.ErrSymbol, y) {
		return false
	}
	text := bytes.Split(texts[at:], []byte{0})[0]
	name := api.Sym{Name: string(text), Value: o.double(y + 8)}
	if !utf8.Valid(text) || !nameForm.Match(text) || o.b[y+4]%16 == 3 || o.b[y+4]%16 == 4 || o.half(y+6) == 0 {
		return true
	}
	for _, earlier := range o.im.Syms {
		if earlier == name {
			return true
		}
	}
	if o.bad(len(o.im.Syms) == 400, api.ErrMany, y) {
		return false
	}
	o.im.Syms = append(o.im.Syms, name)
	return true
}
