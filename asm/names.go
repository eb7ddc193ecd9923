package asm

import (
	"sort"

	"anvil/api"
)

// local: where a local label is, and how many others were made ahead of it.
type local struct {
	order int
	at    place
}

// makeLabel makes a label of the place that is reached.
func (p *program) makeLabel(label token) error {
	if label.kind == kindNumber {
		p.locals[label.value] = append(p.locals[label.value], local{p.localsMade, p.here()})
		p.localsMade++
		return nil
	}
	if err := p.mayMake(label); err != nil {
		return err
	}
	p.names[label.text] = p.here()
	return nil
}

// mayMake tells whether a name may still be made.
func (p *program) mayMake(name token) error {
	if _, is := p.names[name.text]; is {
		return fault(name.at, api.ErrTwice)
	}
	if len(p.names) == api.MaxLabels {
		return fault(name.at, api.ErrMany)
	}
	return nil
}

// early finds what is known when a statement is reached.
func (p *program) early() look {
	return func(t token) (uint64, bool) {
		at, is := place{}, false
		switch t.kind {
		case kindName:
			at, is = p.names[t.text]
		case kindHere:
			at, is = p.here(), true
		case kindBack:
			at, is = p.localBack(t.value, p.localsMade)
		}
		return p.address(at), is && (at.section == sectionText || at.section == noSection)
	}
}

// fixed finds the constants that are made already: all that a short form may hang on.
func (p *program) fixed() look {
	return func(t token) (uint64, bool) {
		at, is := p.names[t.text]
		return p.address(at), is && at.section == noSection
	}
}

// late finds everything, seen from a statement.
func (p *program) late(s *statement) look {
	return func(t token) (uint64, bool) {
		at, is := s.at, true
		switch t.kind {
		case kindName:
			at, is = p.names[t.text]
		case kindBack:
			at, is = p.localBack(t.value, s.locals)
		case kindAhead:
			at, is = p.localAhead(t.value, s.locals)
		}
		return p.address(at), is
	}
}

// localBack is the last local label of a number that was made ahead of the one in that order.
func (p *program) localBack(number uint64, order int) (place, bool) {
	all := p.locals[number]
	i := firstFrom(all, order)
	if i == 0 {
		return place{}, false
	}
	return all[i-1].at, true
}

// localAhead is the first local label of a number from that order on.
func (p *program) localAhead(number uint64, order int) (place, bool) {
	all := p.locals[number]
	i := firstFrom(all, order)
	if i == len(all) {
		return place{}, false
	}
	return all[i].at, true
}

func firstFrom(all []local, order int) int {
	return sort.Search(len(all), func(i int) bool { return all[i].order >= order })
}
