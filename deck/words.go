package deck

import (
	"strings"

	"anvil/number"
)

// word is a word of a line. Of one that is quoted, a string, the text is what the string says.
type word struct {
	text   string
	quoted bool
}

// is tells whether a word is this one, and no string.
func (w word) is(text string) bool { return !w.quoted && w.text == text }

// wordsOf cuts a line into its words; false: there is something in it that is no word.
func wordsOf(text string) ([]word, bool) {
	var words []word
	rest := strings.TrimLeft(text, blanks)
	for rest != "" {
		w, size, is := wordAt(rest)
		if !is {
			return nil, false
		}
		behind := rest[size:]
		rest = strings.TrimLeft(behind, blanks)
		if rest != "" && len(rest) == len(behind) { // no blank stands between two words
			return nil, false
		}
		words = append(words, w)
	}
	return words, true
}

// wordAt is the word that a text begins with, and how many of the text's bytes it takes.
func wordAt(text string) (word, int, bool) {
	if strings.HasPrefix(text, quote) {
		return stringAt(text)
	}
	size := strings.IndexAny(text, blanks+quote)
	if size < 0 {
		size = len(text)
	}
	return word{text: text[:size]}, size, true
}

// The kinds of words that may stand behind a line's first one.
const (
	aWord = iota
	aNumber
	aCount
)

// operand is such a word, and its value, if it is a number or a count.
type operand struct {
	text  string
	value uint64
}

// operandsOf reads words of these kinds; false: they are others, or not as many.
func operandsOf(words []word, kinds ...int) ([]operand, bool) {
	if len(words) != len(kinds) {
		return nil, false
	}
	var operands []operand
	for i, w := range words {
		o, is := operandOf(w, kinds[i])
		if !is {
			return nil, false
		}
		operands = append(operands, o)
	}
	return operands, true
}

func operandOf(w word, kind int) (operand, bool) {
	if w.quoted {
		return operand{}, false
	}
	o, is := operand{text: w.text}, true
	switch kind {
	case aNumber:
		o.value, is = number.Number(w.text)
	case aCount:
		o.value, is = number.Count(w.text)
	}
	return o, is
}
