package image

import (
	"cmp"
	"math"
	"unicode"
	"unicode/utf8"

	"anvil/api"
)

// longestName is how many bytes a name can have.
const longestName = api.MaxName * utf8.UTFMax

// checkParts finds the first part that may not be.
func checkParts(parts []api.Seg) api.Errno {
	for i, part := range parts {
		if part.Size == 0 || part.Flags < 0 || part.Flags > allRights || uint64(len(part.Data)) > part.Size || passesEnd(part.Addr, part.Size) {
			return api.ErrSegment
		}
		if i > 0 && part.Addr <= lastAddress(parts[i-1]) {
			return api.ErrOverlap
		}
	}
	return api.OK
}

// passesEnd tells whether so many bytes (there is at least one) from an address on go beyond the last address there is.
func passesEnd(address, size uint64) bool { return size-1 > math.MaxUint64-address }

// lastAddress is the address of a part's last byte: the one behind it may be no number any more.
func lastAddress(part api.Seg) uint64 { return part.Addr + (part.Size - 1) }

// meet tells whether two parts have an address in common.
func meet(a, b api.Seg) bool {
	return a.Addr <= lastAddress(b) && b.Addr <= lastAddress(a)
}

// checkNames finds the first name that may not be.
func checkNames(names []api.Sym) api.Errno {
	for i, name := range names {
		if !isName(name.Name) {
			return api.ErrName
		}
		if i > 0 && compareNames(names[i-1], name) >= 0 {
			return api.ErrSymbol
		}
	}
	return api.OK
}

// compareNames puts names in the order in which an image lists them.
func compareNames(a, b api.Sym) int {
	return cmp.Or(cmp.Compare(a.Value, b.Value), cmp.Compare(a.Name, b.Name))
}

// isName tells whether a text is a name.
func isName(text string) bool {
	if text == "" || !utf8.ValidString(text) || utf8.RuneCountInString(text) > api.MaxName {
		return false
	}
	for i, r := range text {
		if !isNameRune(r) || i == 0 && (isDigit(r) || r == '$') {
			return false
		}
	}
	return true
}

// isNameRune tells whether a rune can stand in a name.
func isNameRune(r rune) bool {
	return unicode.IsLetter(r) || isDigit(r) || r == '_' || r == '.' || r == '$'
}

// isDigit is not unicode.IsDigit: names have no digits but these ten.
func isDigit(r rune) bool { return '0' <= r && r <= '9' }
