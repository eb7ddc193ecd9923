package deck

import (
	"strconv"
	"strings"
)

// quote stands at both ends of a string.
const quote = `"`

// escape begins what stands for a byte that can't stand as itself.
const escape = '\\'

// The bytes that stand in a string as themselves, but for the quote and the escape.
const (
	firstPlain = 32
	lastPlain  = 126
)

const hexDigits = "0123456789abcdef"

// stringAt is the string that a text begins with, and how many of the text's bytes it takes.
func stringAt(text string) (word, int, bool) {
	var says strings.Builder
	at := 1
	for at < len(text) && text[at] != quote[0] {
		b, size, is := byteAt(text[at:])
		if !is {
			return word{}, 0, false
		}
		says.WriteByte(b)
		at += size
	}
	if at >= len(text) {
		return word{}, 0, false
	}
	return word{says.String(), true}, at + 1, true
}

// byteAt is the byte that the beginning of a text stands for within a string, and how many of the text's bytes that is.
func byteAt(text string) (byte, int, bool) {
	if text[0] != escape {
		return text[0], 1, isPlain(text[0])
	}
	if len(text) < 2 {
		return 0, 0, false
	}
	switch text[1] {
	case quote[0], escape:
		return text[1], 2, true
	case 'n':
		return '\n', 2, true
	case 'x':
		if len(text) < 4 {
			return 0, 0, false
		}
		b, is := byteOf(text[2:4])
		return b, 4, is
	}
	return 0, 0, false
}

func isPlain(b byte) bool { return b >= firstPlain && b <= lastPlain }

// byteOf is the byte that two hex digits say.
func byteOf(digits string) (byte, bool) {
	value, err := strconv.ParseUint(digits, 16, 8)
	return byte(value), err == nil
}

// bytesOf is the bytes that hex digits say, two digits each.
func bytesOf(digits string) ([]byte, bool) {
	if len(digits)%2 != 0 {
		return nil, false
	}
	var bytes []byte
	for at := 0; at < len(digits); at += 2 {
		b, is := byteOf(digits[at : at+2])
		if !is {
			return nil, false
		}
		bytes = append(bytes, b)
	}
	return bytes, true
}

// hexOf is bytes as hex digits, two digits each.
func hexOf(bytes []byte) string {
	var text strings.Builder
	for _, b := range bytes {
		text.WriteByte(hexDigits[b>>4])
		text.WriteByte(hexDigits[b&15])
	}
	return text.String()
}

// quoted is bytes as a string.
func quoted(bytes []byte) string {
	var text strings.Builder
	text.WriteString(quote)
	for _, b := range bytes {
		switch {
		case b == quote[0] || b == escape:
			text.WriteByte(escape)
			text.WriteByte(b)
		case b == '\n':
			text.WriteString(`\n`)
		case isPlain(b):
			text.WriteByte(b)
		default:
			text.WriteString(`\x`)
			text.WriteString(hexOf([]byte{b}))
		}
	}
	text.WriteString(quote)
	return text.String()
}
