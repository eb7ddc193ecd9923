package asm

import "anvil/api"

// line: a line's tokens, which of them are labels, and where the statement's head stands (behind all of them, if there is none).
type line struct {
	tokens []token
	labels []token
	head   int
}

// span: the tokens from one on and up to another.
type span struct{ from, to int }

// readLine cuts a line into labels and a statement.
func readLine(text string) (line, error) {
	tokens, err := tokensOf(text)
	if err != nil {
		return line{}, err
	}
	l := line{tokens: tokens}
	for l.head+1 < len(tokens) && tokens[l.head+1].is(":") {
		t := tokens[l.head]
		switch {
		case t.kind == kindHere:
			return line{}, fault(t.at, api.ErrName)
		case t.kind != kindName && !t.decimal:
			return line{}, fault(t.at, api.ErrLine)
		}
		l.labels = append(l.labels, t)
		l.head += 2
	}
	if l.head == len(tokens) {
		return l, nil
	}
	if t := tokens[l.head]; t.kind != kindName && t.kind != kindHere {
		return line{}, fault(t.at, api.ErrLine)
	}
	return l, nil
}

// operands are the spans of what stands behind the head, cut at the commas that are in no bracket.
func (l line) operands() []span {
	from := l.head + 1
	if from == len(l.tokens) {
		return nil
	}
	var spans []span
	deep := 0
	for i := from; i < len(l.tokens); i++ {
		switch t := l.tokens[i]; {
		case t.is("("):
			deep++
		case t.is(")"):
			deep = max(0, deep-1)
		case t.is(",") && deep == 0:
			spans = append(spans, span{from, i})
			from = i + 1
		}
	}
	return append(spans, span{from, len(l.tokens)})
}
