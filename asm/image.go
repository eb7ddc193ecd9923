package asm

import (
	"cmp"
	"slices"
	"strings"

	"anvil/api"
)

// startName is the label where a program begins.
const startName = "_start"

// layOut lays .data and .bss behind .text.
func (p *program) layOut() error {
	end := p.bases[sectionText] + uint64(len(p.sections[sectionText].bytes))
	for _, s := range [...]int{sectionData, sectionBss} {
		own := p.sections[s]
		p.bases[s] = end + missing(end, own.alignment)
		end = p.bases[s] + uint64(len(own.bytes))
	}
	if end > api.RamBase+api.MaxRam {
		return fault(0, api.ErrRange)
	}
	return nil
}

// missing is how much is missing up to a multiple of a power of two.
func missing(at, alignment uint64) uint64 { return -at % alignment }

// image is the program as it is loaded.
func (p *program) image() api.Image {
	im := api.Image{Entry: api.RamBase, Syms: p.symbols()}
	if at, is := p.names[startName]; is && at.section == sectionText {
		im.Entry = p.address(at) &^ 1
	}
	for s, own := range p.sections {
		if len(own.bytes) == 0 {
			continue
		}
		part := api.Seg{Addr: p.bases[s], Size: uint64(len(own.bytes)), Flags: api.R | api.W, Data: own.bytes}
		switch s {
		case sectionText:
			part.Flags = api.R | api.X
		case sectionBss:
			part.Data = nil
		}
		im.Segs = append(im.Segs, part)
	}
	return im
}

// symbols are the names, sorted, since a map has no order of its own. They are copies, so that they do not hold on to the source.
func (p *program) symbols() []api.Sym {
	var all []api.Sym
	for name, at := range p.names {
		all = append(all, api.Sym{Name: strings.Clone(name), Value: p.address(at)})
	}
	slices.SortFunc(all, func(a, b api.Sym) int {
		return cmp.Or(cmp.Compare(a.Value, b.Value), cmp.Compare(a.Name, b.Name))
	})
	return all
}
