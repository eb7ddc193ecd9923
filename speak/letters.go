package speak

import (
	"strings"

	"anvil/api"
)

// orderLetters is what a fence orders, from the highest of four bits down.
const orderLetters = "iorw"

// orderNone is what is written for none of them.
const orderNone = "0"

const (
	orderTop = 1 << 3
	orderAll = 1<<4 - 1
)

// Where in a fence's number the four bits begin that tell what is ahead of it, and what is behind.
const (
	aheadAt  = 4
	behindAt = 0
)

// letters is what a fence orders, on one side: four bits of the record's number.
type letters struct{ at int }

func (l letters) tell(in api.Instr, _ uint64) string {
	text := ""
	for at, r := range orderLetters {
		if in.Imm>>l.at&(orderTop>>at) != 0 {
			text += string(r)
		}
	}
	if text == "" {
		return orderNone
	}
	return text
}

func (l letters) read(words []string, _ uint64, in *api.Instr) api.Errno {
	found, is := ordered(only(words))
	if !is {
		return api.ErrOperand
	}
	in.Imm |= found << l.at
	return api.OK
}

// ordered is the bits that letters tell, in any order; false: a letter is none, stands twice, or there is none at all.
func ordered(text string) (int64, bool) {
	if text == orderNone {
		return 0, true
	}
	found := int64(0)
	for _, r := range text {
		at := strings.IndexRune(orderLetters, r)
		if at < 0 || found&(orderTop>>at) != 0 {
			return 0, false
		}
		found |= orderTop >> at
	}
	return found, found != 0
}
