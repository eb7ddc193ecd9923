package image

import "anvil/api"

// identity is what a file begins with: the magic number, 64 bit, little endian, version 1.
const identity = "\x7fELF\x02\x01\x01"

// Sizes, in bytes, of what a file is made of.
const (
	headSize    = 64
	programSize = 56
	sectionSize = 64
	entrySize   = 24
)

// Places in the head.
const (
	headKind         = 16
	headMachine      = 18
	headVersion      = 20
	headEntry        = 24
	headPrograms     = 32
	headSections     = 40
	headFlags        = 48
	headOwnSize      = 52
	headProgramSize  = 54
	headProgramCount = 56
	headSectionSize  = 58
	headSectionCount = 60
)

// Places in a program header.
const (
	programKind    = 0
	programFlags   = 4
	programPlace   = 8
	programAddress = 24
	programLength  = 32
	programMemory  = 40
)

// Places in a section header.
const (
	sectionKind   = 4
	sectionPlace  = 24
	sectionLength = 32
	sectionLink   = 40
	sectionEntry  = 56
)

// Places in an entry of the table of names.
const (
	entryText    = 0
	entryKind    = 4
	entrySection = 6
	entryValue   = 8
)

// Numbers that say of which kind a thing is.
const (
	executable = 2
	riscv      = 243
	version    = 1
	loaded     = 1
	compressed = 1
	tableKind  = 2
	textsKind  = 3
	ofSection  = 3
	ofFile     = 4
	global     = 16
	absolute   = 0xfff1
	undefined  = 0
)

// allRights are those that a part can have; as a number no others are above it.
const allRights = api.R + api.W + api.X

// lowFourBits of an entry's kind tell what it names; the others tell who sees it.
const lowFourBits = 15

// mirror turns the rights of a part as api counts them into those of a file, and back: R and X change places.
func mirror(rights int) int {
	return rights>>2&1 | rights&api.W | rights&1<<2
}
