package asm

import (
	"strconv"
	"strings"
	"unicode/utf8"

	"anvil/api"
)

// item: what stands for one thing between quotes: its value, its bytes, and how many bytes of the line it takes.
type item struct {
	value uint64
	bytes string
	size  int
}

// characterAt is the character at the beginning of a text.
func characterAt(text string) (token, api.Errno) {
	it, is := itemAt(text[1:], '\'')
	end := 1 + it.size + 1
	if !is || end > len(text) || text[end-1] != '\'' {
		return token{}, api.ErrLine
	}
	return token{kind: kindChar, end: end, text: text[:end], value: it.value}, api.OK
}

// textAt is the text, with its quotes, at the beginning of a text.
func textAt(text string) (token, api.Errno) {
	var b strings.Builder
	at := 1
	for at < len(text) && text[at] != '"' {
		it, is := itemAt(text[at:], '"')
		if !is {
			return token{}, api.ErrLine
		}
		b.WriteString(it.bytes)
		at += it.size
	}
	if at == len(text) {
		return token{}, api.ErrLine
	}
	return token{kind: kindText, end: at + 1, text: b.String()}, api.OK
}

// itemAt is the item at the beginning of a text, where that quote ends the items; false: there is none.
func itemAt(text string, quote rune) (item, bool) {
	if strings.HasPrefix(text, `\`) {
		return escapeAt(text[1:])
	}
	r, size := utf8.DecodeRuneInString(text)
	if r == quote || r == '\n' || r == utf8.RuneError && size < 2 { // no rune at all, or bytes that are none
		return item{}, false
	}
	return item{uint64(r), text[:size], size}, true
}

// escapeAt is the escape whose \ stands ahead of a text; false: it is none.
func escapeAt(text string) (item, bool) {
	if len(text) >= 3 && text[0] == 'x' {
		value, err := strconv.ParseUint(text[1:3], 16, 8)
		return item{value, string([]byte{byte(value)}), 4}, err == nil
	}
	if text == "" {
		return item{}, false
	}
	const names, values = `ntr0\'"`, "\n\t\r\x00\\'\""
	at := strings.IndexByte(names, text[0])
	if at < 0 {
		return item{}, false
	}
	return item{uint64(values[at]), values[at : at+1], 2}, true
}
