package speak

import "strings"

// blanks is the runes that may stand between words.
const blanks = " \t"

// The marks: each is a word of its own, or ends an operand.
const (
	comma   = ','
	opening = '('
	closing = ')'
)

// cutName is a text's name, and what stands behind it.
func cutName(text string) (name, rest string) {
	text = strings.TrimLeft(text, blanks)
	for at, r := range text {
		if isBlank(r) {
			return text[:at], text[at:]
		}
	}
	return text, ""
}

// cutOperands is the words of each operand. Between blanks and marks all is one word, so that a blank where none may be makes a word too many.
func cutOperands(text string) [][]string {
	if strings.Trim(text, blanks) == "" {
		return nil
	}
	operands := [][]string{nil}
	last, from := 0, 0
	// The blank behind the text ends its last word.
	for at, r := range text + " " {
		mark := isMark(r)
		if !mark && !isBlank(r) {
			continue
		}
		if from < at {
			operands[last] = append(operands[last], text[from:at])
		}
		from = at + 1
		if r == comma {
			operands = append(operands, nil)
			last++
		} else if mark {
			operands[last] = append(operands[last], string(r))
		}
	}
	return operands
}

func isBlank(r rune) bool { return strings.ContainsRune(blanks, r) }

func isMark(r rune) bool { return r == comma || r == opening || r == closing }
