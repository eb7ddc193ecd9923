// Package number: how texts write numbers: see doc/07-speak.md, section 7.2.
package number

import (
	"math"
	"strconv"
	"strings"
)

// The bases that numbers are written in.
const (
	decimal = 10
	hex     = 16
)

// hexMark stands ahead of hex digits.
const hexMark = "0x"

// mostBelow is how far below 0 a number with a sign may be.
const mostBelow = 1 << 63

// Number is the value of a number, with a sign or without; false: the text is none.
func Number(text string) (uint64, bool) {
	rest, below := strings.CutPrefix(text, "-")
	value, is := Count(rest)
	if !below {
		return value, is
	}
	if value > mostBelow {
		return 0, false
	}
	return -value, is
}

// Count is the value of a number without a sign; false: the text is none.
func Count(text string) (uint64, bool) {
	digits, isHex := strings.CutPrefix(text, hexMark)
	if isHex {
		return whole(digits, hex)
	}
	return whole(text, decimal)
}

// Hex is a value as texts write it: no leading zeros.
func Hex(value uint64) string {
	return hexMark + strconv.FormatUint(value, hex)
}

// Padded is a value with at least so many hex digits.
func Padded(value uint64, digits int) string {
	text := strconv.FormatUint(value, hex)
	return hexMark + strings.Repeat("0", max(0, digits-len(text))) + text
}

// whole is the value of digits; false: there are none, one of them is no digit, or the value has no room.
func whole(digits string, base uint64) (uint64, bool) {
	value := uint64(0)
	for _, r := range digits {
		d := digit(r)
		if d >= base || value > (math.MaxUint64-d)/base {
			return 0, false
		}
		value = value*base + d
	}
	return value, digits != ""
}

// digit is what a rune counts as a hex digit; at least 16, if it is none.
func digit(r rune) uint64 {
	switch {
	case r >= '0' && r <= '9':
		return uint64(r - '0')
	case r >= 'a' && r <= 'f':
		return uint64(r-'a') + decimal
	case r >= 'A' && r <= 'F':
		return uint64(r-'A') + decimal
	}
	return hex
}
