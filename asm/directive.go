package asm

import (
	"math/bits"

	"anvil/api"
	"anvil/arith"
)

// The names that .option takes.
const (
	shortForms = "rvc"
	longForms  = "norvc"
)

// mostPower is the greatest power of two that a place may be aligned to.
const mostPower = 12

func (p *program) changeSection(s *statement) error {
	switch s.head.text {
	case ".text":
		p.now = sectionText
	case ".data":
		p.now = sectionData
	case ".bss":
		p.now = sectionBss
	}
	return nil
}

func (p *program) makeConstant(s *statement) error {
	name := s.operands[0].first
	if err := p.mayMake(name); err != nil {
		return err
	}
	value, err := s.operands[1].value(p.early())
	if err != nil {
		return err
	}
	p.names[name.text] = place{noSection, value}
	return nil
}

func (p *program) chooseForms(s *statement) error {
	p.short = s.operands[0].text == shortForms
	return nil
}

func (p *program) checkGlobal(s *statement) error {
	for _, o := range s.operands {
		if _, is := p.names[o.text]; !is {
			return fault(o.first.at, api.ErrNoName)
		}
	}
	return nil
}

// moveOn is .org.
func (p *program) moveOn(s *statement) error {
	to, err := s.operands[0].value(p.early())
	if err != nil {
		return err
	}
	from := p.address(s.at)
	if to < from || to > api.RamBase+api.MaxRam {
		return fault(s.head.at, api.ErrPlace)
	}
	return p.growZeros(s, to-from)
}

func (p *program) makeZeros(s *statement) error {
	size, err := s.operands[0].value(p.early())
	if err != nil {
		return err
	}
	if size > api.MaxRam {
		return fault(s.head.at, api.ErrRange)
	}
	return p.growZeros(s, size)
}

func (p *program) align(s *statement) error {
	n, err := s.operands[0].value(p.early())
	if err != nil {
		return err
	}
	if s.head.text != ".balign" {
		n = uint64(1) << n // 0, if n is too great: no power of two
	}
	if bits.OnesCount64(n) != 1 || n > 1<<mostPower {
		return fault(s.head.at, api.ErrRange)
	}
	own := &p.sections[s.at.section]
	own.alignment = max(own.alignment, n)
	return p.growZeros(s, missing(s.at.offset, n))
}

// makeText is .ascii and what puts a 0 behind each text.
func (p *program) makeText(s *statement) error {
	var all []byte
	for _, o := range s.operands {
		all = append(all, o.text...)
		if s.head.text != ".ascii" {
			all = append(all, 0)
		}
	}
	return p.grow(s, all)
}

func (p *program) reserveData(s *statement) error {
	p.waiting = append(p.waiting, s)
	return p.growZeros(s, uint64(len(s.operands)*dataSize(s.head.text)))
}

// makeData is .byte to .dword.
func (p *program) makeData(s *statement) error {
	size := dataSize(s.head.text)
	var all []byte
	for _, o := range s.operands {
		v, err := o.value(p.late(s))
		if err != nil {
			return err
		}
		if !hasRoom(v, size) {
			return fault(o.first.at, api.ErrRange)
		}
		all = append(all, arith.Put(v, size)...)
	}
	p.fill(s, all)
	return nil
}

func dataSize(head string) int {
	switch head {
	case ".byte":
		return 1
	case ".half":
		return 2
	case ".word":
		return 4
	}
	return 8
}

// hasRoom tells whether a value, with a sign or without, is what so many bytes say.
func hasRoom(v uint64, size int) bool {
	return v == arith.Bits(v, 8*size-1, 0) || v == arith.Extend(v, 8*size)
}
