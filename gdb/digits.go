package gdb

import (
	"strconv"

	"anvil/arith"
)

// hexDigits is the digits that answers are written with.
const hexDigits = "0123456789abcdef"

const (
	hexBase    = 16
	byteBits   = 8
	wordBits   = 64
	byteDigits = 2  // the digits of a byte
	wordBytes  = 8  // the bytes of a register
	mostDigits = 16 // a number has no more, leading zeros counted too
)

// digitsOf is the digits of bytes.
func digitsOf(b []byte) string {
	var all []byte
	for _, c := range b {
		all = append(all, hexDigits[c/hexBase], hexDigits[c%hexBase])
	}
	return string(all)
}

// bytesOf is the bytes of digits; false: they are none.
func bytesOf(digits string) ([]byte, bool) {
	if len(digits)%byteDigits != 0 {
		return nil, false
	}
	var all []byte
	for ; digits != ""; digits = digits[byteDigits:] {
		c, err := strconv.ParseUint(digits[:byteDigits], hexBase, byteBits)
		if err != nil {
			return nil, false
		}
		all = append(all, byte(c))
	}
	return all, true
}

// numberOf is a hex number; false: the text is none.
func numberOf(text string) (uint64, bool) {
	if len(text) > mostDigits {
		return 0, false
	}
	n, err := strconv.ParseUint(text, hexBase, wordBits)
	return n, err == nil
}

// wordDigits is a register's digits.
func wordDigits(v uint64) string { return digitsOf(arith.Put(v, wordBytes)) }

// wordOf is the value that a register's digits tell; false: they are not of that form.
func wordOf(digits string) (uint64, bool) {
	b, is := bytesOf(digits)
	if !is || len(b) != wordBytes {
		return 0, false
	}
	return arith.Take(b), true
}
