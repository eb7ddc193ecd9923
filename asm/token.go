package asm

import (
	"strconv"
	"strings"
	"unicode"
	"unicode/utf8"

	"anvil/api"
)

// The kinds of tokens.
const (
	kindName   = iota
	kindHere   // the location
	kindNumber // of any form
	kindBack   // a local reference backward
	kindAhead  // a local reference forward
	kindChar
	kindText
	kindMark
)

// token: a piece of a line. text is what is written there, or a text's bytes; value a number's, a local reference's or a character's; decimal tells the numbers that may be local labels.
type token struct {
	kind    int
	at, end int
	text    string
	value   uint64
	decimal bool
}

// is tells whether a token is that mark.
func (t token) is(mark string) bool { return t.kind == kindMark && t.text == mark }

// tokensOf cuts a line into its tokens.
func tokensOf(line string) ([]token, error) {
	if len(line) > api.MaxLine {
		return nil, fault(api.MaxLine, api.ErrLine)
	}
	var tokens []token
	for at := 0; at < len(line) && line[at] != '#'; {
		if strings.IndexByte(" \t\r", line[at]) >= 0 {
			at++
			continue
		}
		t, why := tokenAt(line[at:])
		if why != api.OK {
			return nil, fault(at, why)
		}
		t.at, t.end = at, at+t.end
		tokens = append(tokens, t)
		at = t.end
	}
	return tokens, nil
}

// tokenAt is the token at the beginning of a rest of a line, its end counted from there on.
func tokenAt(rest string) (token, api.Errno) {
	switch {
	case isDigit(rest[0]):
		return numberAt(rest)
	case rest[0] == '\'':
		return characterAt(rest)
	case rest[0] == '"':
		return textAt(rest)
	}
	if size := nameSize(rest); size > 0 {
		return nameOf(rest[:size])
	}
	if size := markSize(rest); size > 0 {
		return token{kind: kindMark, end: size, text: rest[:size]}, api.OK
	}
	return token{}, api.ErrLine
}

// nameSize is how many bytes of a name stand at the beginning of a text.
func nameSize(text string) int {
	for i, r := range text {
		inside := i > 0 && (r >= '0' && r <= '9' || r == '$')
		if !inside && r != '_' && r != '.' && !unicode.IsLetter(r) {
			return i
		}
	}
	return len(text)
}

func nameOf(text string) (token, api.Errno) {
	if utf8.RuneCountInString(text) > api.MaxName {
		return token{}, api.ErrName
	}
	kind := kindName
	if text == "." {
		kind = kindHere
	}
	return token{kind: kind, end: len(text), text: text}, api.OK
}

// markSize is how many bytes of a mark stand at the beginning of a text.
func markSize(text string) int {
	if strings.HasPrefix(text, "<<") || strings.HasPrefix(text, ">>") {
		return 2
	}
	if strings.IndexByte("(),:+-*/%&|^~", text[0]) >= 0 {
		return 1
	}
	return 0
}

// numberAt is the number at the beginning of a text: all letters and digits there must belong to it.
func numberAt(text string) (token, api.Errno) {
	size := 0
	for size < len(text) && (isDigit(text[size]) || isLatin(text[size])) {
		size++
	}
	text = text[:size]
	t := token{kind: kindNumber, end: size, text: text}
	digits, base := text, 10
	switch last := text[size-1]; {
	case all(text, isDigit):
		t.decimal = true
	case size > 2 && strings.HasPrefix(text, "0x") && all(text[2:], isHex):
		digits, base = text[2:], 16
	case size > 2 && strings.HasPrefix(text, "0b") && all(text[2:], isBinary):
		digits, base = text[2:], 2
	case last == 'b' && all(text[:size-1], isDigit):
		t.kind, digits = kindBack, text[:size-1]
	case last == 'f' && all(text[:size-1], isDigit):
		t.kind, digits = kindAhead, text[:size-1]
	default:
		return token{}, api.ErrExpr
	}
	value, err := strconv.ParseUint(digits, base, 64)
	if err != nil { // the digits are some, so the value alone can be at fault
		return token{}, api.ErrRange
	}
	t.value = value
	return t, api.OK
}

func all(text string, is func(byte) bool) bool {
	for i := range len(text) {
		if !is(text[i]) {
			return false
		}
	}
	return true
}

func isDigit(c byte) bool { return c >= '0' && c <= '9' }

func isBinary(c byte) bool { return c == '0' || c == '1' }

func isHex(c byte) bool { return isDigit(c) || c >= 'a' && c <= 'f' || c >= 'A' && c <= 'F' }

func isLatin(c byte) bool { return c >= 'a' && c <= 'z' || c >= 'A' && c <= 'Z' }
