package deck

import (
	"iter"
	"strings"

	"anvil/api"
)

// blanks is the bytes that may stand between words.
const blanks = " \t"

// lineEnd stands behind each line.
const lineEnd = "\n"

// commentMark begins a comment line.
const commentMark = "#"

// line is a line of a text: its number, its bytes, and whether it has its end behind it.
type line struct {
	number int
	text   string
	ended  bool
}

// linesOf goes through a text's lines.
func linesOf(text string) iter.Seq[line] {
	return func(yield func(line) bool) {
		rest := text
		for number := 1; rest != ""; number++ {
			own, behind, ended := strings.Cut(rest, lineEnd)
			if !yield(line{number, own, ended}) {
				return
			}
			rest = behind
		}
	}
}

func (l line) isTooLong() bool { return len(l.text) > api.MaxLine }

// isComment tells whether the line is passed over.
func (l line) isComment() bool {
	text := strings.Trim(l.text, blanks)
	return text == "" || strings.HasPrefix(text, commentMark)
}

// isJust tells whether a line has this word alone.
func (l line) isJust(text string) bool {
	return strings.Trim(l.text, blanks) == text
}

// begins tells whether the line's first word is this one, even where the words behind it are none.
func (l line) begins(text string) bool {
	rest, does := strings.CutPrefix(strings.TrimLeft(l.text, blanks), text)
	return does && (rest == "" || strings.IndexByte(blanks+quote, rest[0]) >= 0)
}
