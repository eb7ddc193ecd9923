package asm

import (
	"slices"
	"strconv"

	"anvil/api"
	"anvil/arith"
	"anvil/speak"
)

// The letters of operands' forms: the first seven are the document's.
const (
	letterRegister = 'r'
	letterNumber   = 'e'
	letterTarget   = 't'
	letterCsr      = 'c'
	letterMemory   = 'm'
	letterAddress  = 'a'
	letterFence    = 'f'
	letterValue    = 'v' // an expression alone
	letterName     = 'n'
	letterText     = 's'
	letterOption   = 'o'
)

// The names behind a % that is no mark of rest.
const (
	partHigh = "hi"
	partLow  = "lo"
)

// operand: one operand of a statement. text is what stands there, where that is no expression; part tells %hi from %lo; base is the register in brackets.
type operand struct {
	letter byte
	first  token
	text   string
	part   string
	base   string
	steps  []step
}

// reader reads the operands of one statement.
type reader struct {
	tokens []token
	head   token
}

// operand reads a span as an operand of that letter.
func (r reader) operand(letter byte, s span) (operand, error) {
	own := r.tokens[s.from:s.to]
	o := operand{letter: letter}
	if len(own) > 0 {
		o.first = own[0]
	}
	switch letter {
	case letterTarget, letterValue:
		return r.expression(o, s)
	case letterCsr:
		if isCsr(own) {
			return r.word(o, own)
		}
		return r.expression(o, s)
	case letterNumber:
		return r.part(o, s)
	case letterMemory:
		return r.memory(o, s)
	}
	return r.word(o, own)
}

// word reads an operand that is no expression.
func (r reader) word(o operand, own []token) (operand, error) {
	if !fits(o.letter, own) {
		return operand{}, r.unfit()
	}
	if o.letter == letterAddress {
		o.base = inBrackets(own)
		return o, nil
	}
	o.text = o.first.text
	return o, nil
}

// fits tells whether tokens are of the form of a letter that stands for no expression.
func fits(letter byte, own []token) bool {
	switch letter {
	case letterRegister:
		return isRegister(own)
	case letterAddress:
		return len(own) == 3 && inBrackets(own) != ""
	case letterCsr:
		return isCsr(own)
	case letterFence:
		return one(own, kindName, kindHere, kindNumber, kindBack, kindAhead)
	case letterName:
		return one(own, kindName)
	case letterText:
		return one(own, kindText)
	case letterOption:
		return one(own, kindName) && (own[0].text == shortForms || own[0].text == longForms)
	}
	return false
}

// one tells whether tokens are a single one, of one of these kinds.
func one(own []token, kinds ...int) bool {
	return len(own) == 1 && slices.Contains(kinds, own[0].kind)
}

func isRegister(own []token) bool {
	if !one(own, kindName) {
		return false
	}
	_, is := speak.RegOf(own[0].text)
	return is
}

func isCsr(own []token) bool {
	if !one(own, kindName) {
		return false
	}
	_, is := speak.CsrOf(own[0].text)
	return is
}

// inBrackets is the register in brackets at the end of tokens; empty: there is none.
func inBrackets(own []token) string {
	n := len(own)
	if n < 3 || !own[n-3].is("(") || !own[n-1].is(")") || !isRegister(own[n-2:n-1]) {
		return ""
	}
	return own[n-2].text
}

// memory reads what may be an expression, and a register in brackets behind it.
func (r reader) memory(o operand, s span) (operand, error) {
	o.base = inBrackets(r.tokens[s.from:s.to])
	if o.base == "" {
		return operand{}, r.unfit()
	}
	s.to -= 3
	if s.from == s.to {
		return o, nil
	}
	return r.part(o, s)
}

// part reads an expression, or %hi or %lo of one.
func (r reader) part(o operand, s span) (operand, error) {
	if !o.first.is("%") {
		return r.expression(o, s)
	}
	own := r.tokens[s.from:s.to]
	if len(own) < 2 || !isPart(own[1]) || !enclosed(own[2:]) {
		return operand{}, r.unfit()
	}
	o.part = own[1].text
	return r.expression(o, span{s.from + 3, s.to - 1})
}

func isPart(t token) bool { return t.kind == kindName && (t.text == partHigh || t.text == partLow) }

// enclosed tells whether the first and the last token are one pair of brackets.
func enclosed(own []token) bool {
	deep := 0
	for i, t := range own {
		switch {
		case t.is("("):
			deep++
		case t.is(")"):
			deep--
		}
		if deep <= 0 {
			return deep == 0 && t.is(")") && i == len(own)-1
		}
	}
	return false
}

func (r reader) expression(o operand, s span) (operand, error) {
	steps, err := parse(r.tokens, s)
	if err != nil {
		return operand{}, err
	}
	o.steps = steps
	return o, nil
}

// unfit is the fault of an operand that is not of its form.
func (r reader) unfit() error { return fault(r.head.at, api.ErrOperand) }

// value is what an operand's expression is worth.
func (o operand) value(find look) (uint64, error) {
	v, err := evaluate(o.steps, find)
	switch {
	case err != nil:
		return 0, err
	case o.part == partHigh:
		return high(v), nil
	case o.part == partLow:
		return low(v), nil
	}
	return v, nil
}

// written is an operand as chapter 7 writes it.
func (o operand) written(find look) (string, error) {
	if o.text != "" {
		return o.text, nil
	}
	number := ""
	if o.letter != letterAddress {
		v, err := o.value(find)
		if err != nil {
			return "", err
		}
		number = decimal(v)
	}
	if o.base == "" {
		return number, nil
	}
	return number + "(" + o.base + ")", nil
}

func decimal(v uint64) string { return strconv.FormatUint(v, 10) }

// high is %hi: what lui has to put so that low is all that is missing.
func high(v uint64) uint64 { return arith.Bits(v+0x800, 31, 12) }

// low is %lo.
func low(v uint64) uint64 { return arith.Extend(v, 12) }
