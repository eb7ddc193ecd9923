package asm

import "anvil/api"

// step: one turn in working out an expression: a value is put down, or a sign or mark takes the last ones.
type step struct {
	do    int
	token token
}

// What steps do.
const (
	doPut  = iota // a number or character
	doAsk         // what hangs on names or places
	doSign        // turns the last value
	doJoin        // joins the last two values
)

// look finds the value of a name, a local reference or the location; false: it has none.
type look func(t token) (uint64, bool)

// strengthOf is how strong a token binds what stands on both sides of it; 0: not at all.
func strengthOf(t token) int {
	if t.kind != kindMark {
		return 0
	}
	switch t.text {
	case "|":
		return 1
	case "^":
		return 2
	case "&":
		return 3
	case "<<", ">>":
		return 4
	case "+", "-":
		return 5
	case "*", "/", "%":
		return 6
	}
	return 0
}

// parser reads one expression among a line's tokens and lists the steps that work it out: since operands stand ahead of their marks there, faults of value come as the document orders them.
type parser struct {
	tokens  []token
	at, end int
	deep    int
	steps   []step
}

// parse reads the tokens of a span as one expression.
func parse(tokens []token, s span) ([]step, error) {
	p := &parser{tokens: tokens, at: s.from, end: s.to}
	if err := p.joined(1); err != nil {
		return nil, err
	}
	if p.at < p.end {
		return nil, p.stuck()
	}
	return p.steps, nil
}

// joined reads operands and the marks of at least that strength between them.
func (p *parser) joined(least int) error {
	if err := p.signed(); err != nil {
		return err
	}
	for p.at < p.end {
		mark := p.tokens[p.at]
		strength := strengthOf(mark)
		if strength < least {
			return nil
		}
		p.at++
		if err := p.joined(strength + 1); err != nil {
			return err
		}
		p.steps = append(p.steps, step{doJoin, mark})
	}
	return nil
}

// signed reads an operand and the signs ahead of it, of which the last is done first.
func (p *parser) signed() error {
	from := p.at
	for p.at < p.end && isSign(p.tokens[p.at]) {
		p.at++
	}
	to := p.at
	if err := p.operand(); err != nil {
		return err
	}
	for i := to - 1; i >= from; i-- {
		p.steps = append(p.steps, step{doSign, p.tokens[i]})
	}
	return nil
}

func isSign(t token) bool { return t.is("-") || t.is("+") || t.is("~") }

func (p *parser) operand() error {
	if p.at >= p.end {
		return p.stuck()
	}
	t := p.tokens[p.at]
	switch t.kind {
	case kindNumber, kindChar:
		p.steps = append(p.steps, step{doPut, t})
	case kindName, kindHere, kindBack, kindAhead:
		p.steps = append(p.steps, step{doAsk, t})
	default:
		return p.bracket(t)
	}
	p.at++
	return nil
}

// bracket reads an expression in brackets, which begin with t.
func (p *parser) bracket(t token) error {
	if !t.is("(") {
		return p.stuck()
	}
	if p.deep == api.MaxDeep {
		return fault(t.at, api.ErrDeep)
	}
	p.at++
	p.deep++
	if err := p.joined(1); err != nil {
		return err
	}
	if p.at >= p.end || !p.tokens[p.at].is(")") {
		return p.stuck()
	}
	p.at++
	p.deep--
	return nil
}

// stuck is the fault that the expression cannot go on here: at the next token, be it another operand's, or behind the line's last one.
func (p *parser) stuck() error {
	switch n := len(p.tokens); {
	case p.at < n:
		return fault(p.tokens[p.at].at, api.ErrExpr)
	case n > 0:
		return fault(p.tokens[n-1].end, api.ErrExpr)
	}
	return fault(0, api.ErrExpr)
}

// evaluate does the steps; no steps are worth 0.
func evaluate(steps []step, find look) (uint64, error) {
	values := []uint64{0}
	for _, s := range steps {
		last := len(values) - 1
		switch s.do {
		case doPut:
			values = append(values, s.token.value)
		case doAsk:
			value, is := find(s.token)
			if !is {
				return 0, fault(s.token.at, api.ErrNoName)
			}
			values = append(values, value)
		case doSign:
			values[last] = turned(s.token.text, values[last])
		case doJoin:
			value, why := join(s.token.text, values[last-1], values[last])
			if why != api.OK {
				return 0, fault(s.token.at, why)
			}
			values = append(values[:last-1], value)
		}
	}
	return values[len(values)-1], nil
}

func turned(sign string, v uint64) uint64 {
	switch sign {
	case "-":
		return -v
	case "~":
		return ^v
	}
	return v
}

func join(mark string, a, b uint64) (uint64, api.Errno) {
	if b == 0 && (mark == "/" || mark == "%") {
		return 0, api.ErrZero
	}
	switch mark {
	case "|":
		a |= b
	case "^":
		a ^= b
	case "&":
		a &= b
	case "<<":
		a <<= b
	case ">>":
		a >>= b
	case "+":
		a += b
	case "-":
		a -= b
	case "*":
		a *= b
	case "/":
		a /= b
	case "%":
		a %= b
	}
	return a, api.OK
}
