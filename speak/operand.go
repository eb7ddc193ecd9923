package speak

import (
	"strconv"

	"anvil/api"
	"anvil/decode"
	"anvil/number"
)

// operand is one operand of a form: it tells its part of a record that stands at pc, and reads its words into the record. Words that are not of its kind are ErrOperand; a number that the record itself has no room for is ErrReach, others out of reach are found when the record is laid.
type operand interface {
	tell(in api.Instr, pc uint64) string
	read(words []string, pc uint64, in *api.Instr) api.Errno
}

// The kinds of operands.
type (
	// register is a register of some, in one field of the record or two.
	register struct {
		field field
		among group
	}

	// place is a number and a register in brackets.
	place struct{ base register }

	// address is a register in brackets.
	address struct{ base register }

	// signed is the record's number.
	signed struct{}

	// upper is the twenty bits that go into the upper ones.
	upper struct{}

	// five is the five bits that stand where a register could.
	five struct{}

	// target is the address that the record's number leads to.
	target struct{}

	// csr is a CSR, whose number is the record's.
	csr struct{}

	// bits is all the bits of an instruction of so many bytes.
	bits struct{ length int }
)

const (
	upperMost = 0xfffff
	upperAt   = 12
	fiveMost  = 31
)

func (r register) tell(in api.Instr, _ uint64) string { return Reg(r.field.of(in)) }

func (r register) read(words []string, _ uint64, in *api.Instr) api.Errno {
	n, is := RegOf(only(words))
	if !is || !r.among.has(n) {
		return api.ErrOperand
	}
	r.field.put(in, n)
	return api.OK
}

func (p place) tell(in api.Instr, pc uint64) string {
	return signed{}.tell(in, pc) + address{p.base}.tell(in, pc)
}

func (p place) read(words []string, pc uint64, in *api.Instr) api.Errno {
	if len(words) == 0 {
		return api.ErrOperand
	}
	if errno := (signed{}).read(words[:1], pc, in); errno != api.OK {
		return errno
	}
	return address{p.base}.read(words[1:], pc, in)
}

func (a address) tell(in api.Instr, pc uint64) string {
	return string(opening) + a.base.tell(in, pc) + string(closing)
}

func (a address) read(words []string, pc uint64, in *api.Instr) api.Errno {
	if len(words) != 3 || words[0] != string(opening) || words[2] != string(closing) {
		return api.ErrOperand
	}
	return a.base.read(words[1:2], pc, in)
}

func (signed) tell(in api.Instr, _ uint64) string { return strconv.FormatInt(in.Imm, 10) }

func (signed) read(words []string, _ uint64, in *api.Instr) api.Errno {
	n, is := number.Number(only(words))
	if !is {
		return api.ErrOperand
	}
	in.Imm = int64(n)
	return api.OK
}

func (upper) tell(in api.Instr, _ uint64) string {
	return number.Hex(uint64(in.Imm>>upperAt) & upperMost)
}

func (upper) read(words []string, _ uint64, in *api.Instr) api.Errno {
	n, errno := numberTo(words, upperMost)
	in.Imm = int64(int32(n << upperAt))
	return errno
}

func (five) tell(in api.Instr, _ uint64) string { return strconv.Itoa(in.Rs1) }

func (five) read(words []string, _ uint64, in *api.Instr) api.Errno {
	n, errno := numberTo(words, fiveMost)
	in.Rs1 = int(n)
	return errno
}

func (target) tell(in api.Instr, pc uint64) string { return number.Hex(pc + uint64(in.Imm)) }

func (target) read(words []string, pc uint64, in *api.Instr) api.Errno {
	n, is := number.Number(only(words))
	if !is {
		return api.ErrOperand
	}
	in.Imm = int64(n - pc)
	return api.OK
}

func (csr) tell(in api.Instr, _ uint64) string { return Csr(int(in.Imm)) }

func (csr) read(words []string, _ uint64, in *api.Instr) api.Errno {
	n, is := CsrOf(only(words))
	if !is {
		return api.ErrOperand
	}
	in.Imm = int64(n)
	return api.OK
}

func (b bits) tell(in api.Instr, _ uint64) string {
	return number.Padded(uint64(in.Raw), 2*b.length)
}

func (b bits) read(words []string, _ uint64, in *api.Instr) api.Errno {
	n, errno := numberTo(words, 1<<(8*b.length)-1)
	if errno == api.OK && decode.Length(uint32(n)) != b.length {
		return api.ErrReach
	}
	in.Raw = uint32(n)
	return errno
}

// only is the one word of an operand; empty, which is no operand at all, if there is another number of them.
func only(words []string) string {
	if len(words) != 1 {
		return ""
	}
	return words[0]
}

// numberTo is a number up to a greatest one, that is, without a sign.
func numberTo(words []string, greatest uint64) (uint64, api.Errno) {
	n, is := number.Number(only(words))
	switch {
	case !is:
		return 0, api.ErrOperand
	case n > greatest:
		return 0, api.ErrReach
	}
	return n, api.OK
}
