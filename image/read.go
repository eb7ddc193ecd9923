package image

import (
	"bytes"
	"cmp"
	"slices"

	"anvil/api"
)

// reader holds a file's bytes. Where the file has a fault its methods give up by panic, and Read catches that: so none of them has to hand faults on.
type reader struct {
	file []byte
}

// refuse gives up with a fault, if there is one.
func refuse(wrong bool, why api.Errno, at int) {
	if wrong {
		panic(&api.Fault{At: at, Why: why})
	}
}

// image reads the whole file.
func (r reader) image() api.Image {
	refuse(len(r.file) > api.MaxFile, api.ErrLong, api.MaxFile)
	r.checkIdentity()
	r.checkHead()
	parts := r.parts()
	names := r.names()
	return api.Image{Entry: r.double(headEntry), Segs: parts, Syms: names}
}

// checkIdentity looks at the first bytes one by one, as a file may end among them.
func (r reader) checkIdentity() {
	for i := range len(identity) {
		refuse(i >= len(r.file), api.ErrEnd, len(r.file))
		refuse(r.file[i] != identity[i], api.ErrMagic, i)
	}
}

// checkHead looks at the numbers of the head that tell no place.
func (r reader) checkHead() {
	refuse(len(r.file) < headSize, api.ErrEnd, len(r.file))
	refuse(r.half(headKind) != executable, api.ErrMagic, headKind)
	refuse(r.half(headMachine) != riscv, api.ErrMagic, headMachine)
	refuse(r.word(headVersion) != version, api.ErrMagic, headVersion)
	refuse(r.double(headEntry)%2 != 0, api.ErrHeader, headEntry)
	refuse(r.word(headFlags) > compressed, api.ErrHeader, headFlags)
	refuse(r.half(headOwnSize) != headSize, api.ErrHeader, headOwnSize)
}

// parts reads the program headers.
func (r reader) parts() []api.Seg {
	count := r.half(headProgramCount)
	refuse(count != 0 && r.half(headProgramSize) != programSize, api.ErrHeader, headProgramSize)
	refuse(count > api.MaxParts, api.ErrMany, headProgramCount)
	first := r.placeAt(headPrograms, programSize*count)
	var parts []api.Seg
	for i := range int(count) {
		header := first + programSize*i
		if r.isPart(header) {
			parts = append(parts, r.part(header, parts))
		}
	}
	slices.SortFunc(parts, func(a, b api.Seg) int { return cmp.Compare(a.Addr, b.Addr) })
	return parts
}

// isPart tells whether a program header loads anything.
func (r reader) isPart(header int) bool {
	return r.word(header+programKind) == loaded && r.double(header+programMemory)|r.double(header+programLength) != 0
}

// part reads a program header, which may not meet the parts ahead of it.
func (r reader) part(header int, ahead []api.Seg) api.Seg {
	rights := r.word(header + programFlags)
	refuse(rights > allRights, api.ErrSegment, header+programFlags)
	length := r.double(header + programLength)
	part := api.Seg{Addr: r.double(header + programAddress), Size: r.double(header + programMemory), Flags: mirror(int(rights))}
	refuse(length > part.Size, api.ErrSegment, header+programLength)
	place := r.placeAt(header+programPlace, length)
	refuse(passesEnd(part.Addr, part.Size), api.ErrSegment, header+programAddress)
	for _, other := range ahead {
		refuse(meet(part, other), api.ErrOverlap, header+programAddress)
	}
	part.Data = bytes.Clone(r.file[place : place+int(length)])
	return part
}

// placeAt is the place in the file that the double at a place tells, with room for so many bytes there. Where there is no room at all, the fault is the double's.
func (r reader) placeAt(at int, size uint64) int {
	place := r.double(at)
	refuse(!r.hasRoom(place, size), api.ErrEnd, at)
	return int(place)
}

// hasRoom asks without a sum, which could wrap.
func (r reader) hasRoom(place, size uint64) bool {
	end := uint64(len(r.file))
	return size <= end && place <= end-size
}

// half, word and double are the numbers at a place; all their bytes are there.
func (r reader) half(at int) uint64   { return r.number(at, 2) }
func (r reader) word(at int) uint64   { return r.number(at, 4) }
func (r reader) double(at int) uint64 { return r.number(at, 8) }

// number is the number that has so many bytes at a place, the lowest first.
func (r reader) number(at, size int) uint64 {
	v := uint64(0)
	for i := range size {
		v |= uint64(r.file[at+i]) << (8 * i)
	}
	return v
}
