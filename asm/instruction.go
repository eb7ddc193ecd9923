package asm

import (
	"errors"
	"strconv"
	"strings"

	"anvil/api"
	"anvil/arith"
	"anvil/encode"
	"anvil/speak"
)

// The lengths of instructions.
const (
	shortSize = 2
	longSize  = 4
)

// reserveInstruction makes an instruction at once, where it hangs on nothing but constants made already: then alone it may be short. Else it waits for the second walk, as a fault does.
func (p *program) reserveInstruction(s *statement) error {
	var made []byte
	if !s.shape.hasTarget() {
		short := p.short && !isShortName(s.head.text)
		made, s.err = p.instruction(s, p.fixed(), short)
		if errors.Is(s.err, api.ErrNoName) { // the name may be one that is made later
			s.err = nil
		}
	}
	if made == nil {
		p.waiting = append(p.waiting, s)
		made = make([]byte, plainSize(s.head.text))
	}
	return p.grow(s, made)
}

// makeInstruction makes an instruction that hangs on where things are: it is never a short form of a longer one.
func (p *program) makeInstruction(s *statement) error {
	made, err := p.instruction(s, p.late(s), false)
	if err != nil {
		return err
	}
	p.fill(s, made)
	return nil
}

func isShortName(head string) bool { return strings.HasPrefix(head, "c.") }

func plainSize(head string) int {
	if isShortName(head) {
		return shortSize
	}
	return longSize
}

// instruction is the bytes of a statement that is one instruction.
func (p *program) instruction(s *statement, find look, short bool) ([]byte, error) {
	var words []string
	for _, o := range s.operands {
		word, err := o.written(find)
		if err != nil {
			return nil, err
		}
		words = append(words, word)
	}
	if len(s.shape.stands) > 0 {
		return p.code(s, short, replaced(s.shape.stands[0], words...))
	}
	return p.code(s, short, s.head.text+" "+strings.Join(words, ", "))
}

// replaced puts words where a text has $0, $1, ..
func replaced(text string, words ...string) string {
	for i, word := range words {
		text = strings.ReplaceAll(text, "$"+strconv.Itoa(i), word)
	}
	return text
}

// code is the bytes of instructions, one behind the other, as chapter 7 writes them, from a statement's place on.
func (p *program) code(s *statement, short bool, texts ...string) ([]byte, error) {
	var all []byte
	for _, text := range texts {
		in, why := speak.Parse(text, p.address(s.at)+uint64(len(all)))
		if why != api.OK {
			return nil, fault(s.head.at, why)
		}
		all = append(all, bytesOf(in, short)...)
	}
	return all, nil
}

// bytesOf is an instruction's bytes: its own, unless it is to be short and there is such a form.
func bytesOf(in api.Instr, short bool) []byte {
	if short {
		if parcel, is := encode.Compress(in); is {
			return arith.Put(uint64(parcel), shortSize)
		}
	}
	return arith.Put(uint64(in.Raw), in.Len)
}

func (p *program) reservePair(s *statement) error {
	p.waiting = append(p.waiting, s)
	return p.growZeros(s, 2*longSize)
}

// makePair makes the two instructions that reach a target from where the first of them stands.
func (p *program) makePair(s *statement) error {
	last := len(s.operands) - 1
	target, err := s.operands[last].value(p.late(s))
	if err != nil {
		return err
	}
	far := target - p.address(s.at)
	if y := int64(far); y < -1<<31-1<<11 || y > 1<<31-1<<11-1 {
		return fault(s.head.at, api.ErrReach)
	}
	var texts []string
	for _, text := range s.shape.stands {
		texts = append(texts, replaced(text, s.operands[0].text, decimal(high(far)), decimal(low(far))))
	}
	made, err := p.code(s, false, texts...)
	if err != nil {
		return err
	}
	p.fill(s, made)
	return nil
}

// makeRow is li.
func (p *program) makeRow(s *statement) error {
	v, err := s.operands[1].value(p.early())
	if err != nil {
		return err
	}
	made, err := p.code(s, p.short, rowOf(s.operands[0].text, int64(v))...)
	if err != nil {
		return err
	}
	return p.grow(s, made)
}

// rowOf is the row of instructions that put a value into a register: what is above the low twelve bits and its zeros is a smaller value's row.
func rowOf(register string, v int64) []string {
	l := int64(low(uint64(v)))
	both := register + ", " + register + ", "
	switch {
	case v == l:
		return []string{"addi " + register + ", zero, " + strconv.FormatInt(v, 10)}
	case v == int64(int32(v)):
		row := []string{"lui " + register + ", " + decimal(high(uint64(v)))}
		return withLow(row, "addiw "+both, l)
	}
	h, k := (v-l)>>12, 12
	for h%2 == 0 {
		h /= 2
		k++
	}
	row := append(rowOf(register, h), "slli "+both+strconv.Itoa(k))
	return withLow(row, "addi "+both, l)
}

// withLow puts an instruction that adds the low bits behind a row, if there are such bits.
func withLow(row []string, add string, l int64) []string {
	if l == 0 {
		return row
	}
	return append(row, add+strconv.FormatInt(l, 10))
}
