package speak

import (
	"strings"

	"anvil/api"
	"anvil/decode"
	"anvil/encode"
	"anvil/parcel"
)

// The names of what tells bits that no other text tells.
const (
	word = ".word"
	half = ".half"
)

// form is how instructions of a name are written.
type form struct {
	name     string
	operands []operand
	start    api.Instr // what the name says of the record; .word and .half say nothing
	mask, is uint16    // of a short form: the bits of a parcel that tell the name, and what they are
}

// formOf is the form that an instruction is told in. Short ones have other low bits than long ones, so that no long one finds a form there.
func formOf(in api.Instr) form {
	if in.Len == longLength && isPlain(in) {
		return longForm(in)
	}
	for _, f := range shortForms() {
		if f.start.Op == in.Op && f.takes(uint16(in.Raw)) {
			return f
		}
	}
	return bareForm(in.Len)
}

// formsNamed is the forms of a name. They differ in how many operands they have.
func formsNamed(name string) []form {
	if in, is := longNamed(name); is {
		return []form{longForm(in)}
	}
	var all []form
	for _, f := range append(shortForms(), bareForm(shortLength), bareForm(longLength)) {
		if f.name == name {
			all = append(all, f)
		}
	}
	return all
}

// isPlain tells whether a long instruction has a text of its own: that of a fence has no room for bits that say nothing today.
func isPlain(in api.Instr) bool {
	switch in.Op {
	case api.OpIllegal:
		return false
	case api.OpFence:
		return in.Rd == 0 && in.Rs1 == 0 && in.Imm <= orderAll<<aheadAt|orderAll<<behindAt
	case api.OpFenceI:
		return in.Rd == 0 && in.Rs1 == 0 && in.Imm == 0
	}
	return true
}

// bareForm is that of bits of a length that have no other text.
func bareForm(length int) form {
	name := word
	if length == shortLength {
		name = half
	}
	return form{name: name, operands: []operand{bits{length}}}
}

// tell is an instruction's text.
func (f form) tell(in api.Instr, pc uint64) string {
	var operands []string
	for _, o := range f.operands {
		operands = append(operands, o.tell(in, pc))
	}
	return join(f.name, operands...)
}

// join is a text of a name and its operands.
func join(name string, operands ...string) string {
	if len(operands) == 0 {
		return name
	}
	return name + " " + strings.Join(operands, ", ")
}

// read is the instruction that this form says with these operands, of which there are as many as it has. A number out of reach is told only if no operand is wrong.
func (f form) read(operands [][]string, pc uint64) (api.Instr, api.Errno) {
	in, reached := f.start, true
	for i, o := range f.operands {
		switch o.read(operands[i], pc, &in) {
		case api.ErrOperand:
			return api.Instr{}, api.ErrOperand
		case api.ErrReach:
			reached = false
		}
	}
	raw, is := f.lay(in)
	if !reached || !is {
		return api.Instr{}, api.ErrReach
	}
	return decode.Decode(raw), api.OK
}

// lay is the bits of a record in this form; false: its number has no room there.
func (f form) lay(in api.Instr) (uint32, bool) {
	if in.Op == api.OpIllegal {
		return in.Raw, true
	}
	if f.mask == 0 {
		raw, errno := encode.Encode(in)
		return raw, errno == api.OK
	}
	for _, p := range parcel.Of(in) {
		if f.takes(p) {
			return uint32(p), true
		}
	}
	return 0, false
}

// takes tells whether a parcel has the bits of this form.
func (f form) takes(p uint16) bool { return p&f.mask == f.is }
