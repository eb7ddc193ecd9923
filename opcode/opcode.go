// Package opcode: the low seven bits of 32 bit instructions, which decode reads and encode writes: see doc/05-decode.md, section 5.2.
package opcode

// The opcodes. Word: of operations on 32 bits.
const (
	Load          = 0x03
	Fence         = 0x0f
	Immediate     = 0x13
	Auipc         = 0x17
	ImmediateWord = 0x1b
	Store         = 0x23
	Atomic        = 0x2f
	Register      = 0x33
	Lui           = 0x37
	RegisterWord  = 0x3b
	Branch        = 0x63
	Jalr          = 0x67
	Jal           = 0x6f
	System        = 0x73
)
