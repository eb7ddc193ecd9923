package asm

import "anvil/api"

// The sections, and what belongs to none of them.
const (
	sectionText = iota
	sectionData
	sectionBss
	sections
	noSection = sections // a place there is a value by itself: a constant
)

// leastAlignment is what .data and .bss begin at a multiple of.
const leastAlignment = 16

// place: so far behind the beginning of a section.
type place struct {
	section int
	offset  uint64
}

// section: a section's bytes, and what it begins at a multiple of.
type section struct {
	bytes     []byte
	alignment uint64
}

// program: all that the walks make of a source. bases are the sections' addresses: that of .text is known at once, those of the others are known when all of them have their sizes.
type program struct {
	names      map[string]place
	locals     map[uint64][]local
	localsMade int
	sections   [sections]section
	bases      [sections + 1]uint64
	now        int
	short      bool
	waiting    []*statement
}

// statement: a statement, where it stands, and how many local labels were made ahead of it. err is a fault that the first walk knows and the second one tells.
type statement struct {
	line     int
	head     token
	shape    shape
	operands []operand
	at       place
	locals   int
	err      error
}

func newProgram() *program {
	p := &program{names: map[string]place{}, locals: map[uint64][]local{}}
	p.bases[sectionText] = api.RamBase
	p.sections[sectionData].alignment = leastAlignment
	p.sections[sectionBss].alignment = leastAlignment
	return p
}

// firstWalk goes through the lines, makes the names and what hangs on no name that is made later, and leaves the rest waiting.
func (p *program) firstWalk(source []string) error {
	var err error
	number := 0
lines:
	for i, text := range source {
		number = i + 1
		var l line
		if l, err = readLine(text); err != nil {
			break lines
		}
		for _, label := range l.labels {
			if err = p.makeLabel(label); err != nil {
				break lines
			}
		}
		if l.head == len(l.tokens) {
			continue lines
		}
		if err = p.take(l, number); err != nil {
			break lines
		}
	}
	return onLine(err, number)
}

// secondWalk finishes what the first one has left waiting.
func (p *program) secondWalk() error {
	for _, s := range p.waiting {
		if s.err == nil {
			s.err = s.shape.second(p, s)
		}
		if s.err != nil {
			return onLine(s.err, s.line)
		}
	}
	return nil
}

// take does the first walk's part of a line's statement.
func (p *program) take(l line, number int) error {
	head := l.tokens[l.head]
	shapes := shapesOf(head.text)
	if len(shapes) == 0 {
		return fault(head.at, api.ErrWord)
	}
	if !p.mayStand(shapes[0].where) {
		return fault(head.at, api.ErrPlace)
	}
	spans := l.operands()
	shape, is := fitting(shapes, len(spans))
	if !is {
		return fault(head.at, api.ErrOperand)
	}
	s := &statement{line: number, head: head, shape: shape, at: p.here(), locals: p.localsMade}
	r := reader{l.tokens, head}
	for i, own := range spans {
		o, err := r.operand(shape.letter(i), own)
		if err != nil {
			return err
		}
		s.operands = append(s.operands, o)
	}
	return shape.first(p, s)
}

func (p *program) mayStand(where int) bool {
	switch where {
	case inLoaded:
		return p.now != sectionBss
	case inText:
		return p.now == sectionText
	case inEvenText:
		return p.now == sectionText && p.here().offset%2 == 0
	}
	return true
}

// here is the place behind all that the section has.
func (p *program) here() place { return place{p.now, uint64(len(p.sections[p.now].bytes))} }

func (p *program) address(at place) uint64 { return p.bases[at.section] + at.offset }

// wait leaves a statement to the second walk.
func (p *program) wait(s *statement) error {
	p.waiting = append(p.waiting, s)
	return nil
}

// grow puts bytes behind those that a statement's section has.
func (p *program) grow(s *statement, bytes []byte) error {
	own := &p.sections[s.at.section]
	if len(own.bytes)+len(bytes) > api.MaxRam {
		return fault(s.head.at, api.ErrRange)
	}
	own.bytes = append(own.bytes, bytes...)
	return nil
}

// growZeros puts so many bytes 0 there, at most MaxRam.
func (p *program) growZeros(s *statement, size uint64) error {
	return p.grow(s, make([]byte, size))
}

// fill puts a waiting statement's bytes where it stands.
func (p *program) fill(s *statement, bytes []byte) {
	copy(p.sections[s.at.section].bytes[s.at.offset:], bytes)
}
