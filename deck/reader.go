package deck

import (
	"anvil/api"
	"anvil/csr"
	"anvil/valid"
)

// The lines that a deck begins with, by how many of them were read.
const (
	headLine = iota
	ramLine
	otherLines
)

// What may go on with the next line.
const (
	nothing = iota
	aPart
	anElf
	aSource
)

// reader is a deck on its way from its text: how many lines were read, what the next one must be, and what may go on. Of a program that goes on, begun is its line, and program its bytes so far.
type reader struct {
	deck    api.Deck
	lines   int
	next    int
	open    int
	begun   int
	program []byte
}

func newReader() *reader {
	r := &reader{}
	r.deck.Cpu.Mode = api.M
	r.deck.Cpu.Pc = api.RamBase
	return r
}

// take reads a line. Where a line ends an elf, the elf's own fault goes ahead of all that the line has.
func (r *reader) take(l line) error {
	r.lines = l.number
	if r.open == anElf && !l.isComment() && !l.begins(dataWord) {
		if err := r.endElf(); err != nil {
			return err
		}
	}
	if l.isTooLong() {
		return fault(l.number, api.ErrLong)
	}
	if r.open == aSource {
		return r.takeSource(l)
	}
	if l.isComment() {
		return nil
	}
	words, is := wordsOf(l.text)
	if !is {
		return fault(l.number, api.ErrLine)
	}
	if why := r.say(words[0], words[1:]); why != api.OK {
		return fault(l.number, why)
	}
	return nil
}

// say does what a line's words say.
func (r *reader) say(first word, rest []word) api.Errno {
	if first.quoted {
		return api.ErrLine
	}
	switch {
	case r.next == headLine:
		return r.sayHead(first.text, rest)
	case r.next == ramLine:
		return r.sayRam(first.text, rest)
	case first.text == dataWord:
		return r.addData(rest)
	}
	r.open = nothing
	switch first.text {
	case "step":
		return r.addWorlds(1, rest)
	case "steps":
		return r.addCountedWorlds(rest)
	}
	if len(r.deck.Worlds) > 0 {
		return api.ErrLine
	}
	return r.saySetting(first.text, rest)
}

// sayHead reads the first line.
func (r *reader) sayHead(first string, rest []word) api.Errno {
	if first != "anvil" || len(rest) != 1 || !rest[0].is("1") {
		return api.ErrLine
	}
	r.next = ramLine
	return api.OK
}

// sayRam reads the second line.
func (r *reader) sayRam(first string, rest []word) api.Errno {
	o, is := operandsOf(rest, aCount)
	if first != "ram" || !is {
		return api.ErrLine
	}
	if !valid.Ram(o[0].value) {
		return api.ErrSetting
	}
	r.deck.Ram = int(o[0].value)
	r.next = otherLines
	return api.OK
}

// saySetting reads a line that says how the computer begins.
func (r *reader) saySetting(first string, rest []word) api.Errno {
	switch first {
	case "mtime":
		return r.sayMtime(rest)
	case "part":
		return r.addPart(rest)
	case "elf":
		return r.begin(anElf, rest)
	case "source":
		return r.begin(aSource, rest)
	}
	_, why := setCpu(&r.deck.Cpu, first, rest)
	return why
}

func (r *reader) sayMtime(rest []word) api.Errno {
	o, is := operandsOf(rest, aNumber)
	if !is {
		return api.ErrLine
	}
	r.deck.Mtime = o[0].value
	return api.OK
}

// end is what the text's end says: lines may be missing, and an elf may end with it.
func (r *reader) end() error {
	switch {
	case r.next != otherLines || r.open == aSource:
		return fault(r.lines+1, api.ErrLine)
	case r.open == anElf:
		if err := r.endElf(); err != nil {
			return err
		}
	}
	r.deck.Cpu = csr.Proper(r.deck.Cpu)
	return nil
}
