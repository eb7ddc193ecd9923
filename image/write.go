package image

import "anvil/api"

// sectionTexts is the section of the sections' own texts, and the places in it.
const (
	sectionTexts   = "\x00.symtab\x00.strtab\x00.shstrtab\x00"
	tableText      = 1
	textsText      = 9
	sectionsText   = 17
	sectionCount   = 4
	textsNumber    = 2
	sectionsNumber = 3
)

// plan tells where everything stands in the file of an image.
type plan struct {
	data                             []int // of each part; 0, if it has no Data
	table, texts, ownTexts, sections int   // 0, if there are no names
	size                             int
}

// planOf makes the plan ahead of the file, since the head tells places and Check the size.
func planOf(im api.Image) plan {
	p := plan{size: headSize + programSize*len(im.Segs)}
	for _, part := range im.Segs {
		place := 0
		if len(part.Data) > 0 {
			place = aligned(p.size)
			p.size = place + len(part.Data)
		}
		p.data = append(p.data, place)
	}
	if len(im.Syms) == 0 {
		return p
	}
	p.table = aligned(p.size)
	p.texts = p.table + entrySize*(1+len(im.Syms))
	p.ownTexts = p.texts + 1
	for _, name := range im.Syms {
		p.ownTexts += len(name.Name) + 1
	}
	p.sections = aligned(p.ownTexts + len(sectionTexts))
	p.size = p.sections + sectionSize*sectionCount
	return p
}

// aligned is the first multiple of 8 from a place on.
func aligned(place int) int { return (place + 7) / 8 * 8 }

// pen writes into a file, one thing behind the other. The file is all zeros ahead of it, so the gaps need no writing.
type pen struct {
	file []byte
	at   int
}

// put writes numbers of so many bytes each, the lowest byte first.
func (p *pen) put(size int, numbers ...uint64) {
	for _, v := range numbers {
		for i := range size {
			p.file[p.at+i] = byte(v >> (8 * i))
		}
		p.at += size
	}
}

// text writes a text's bytes.
func (p *pen) text(s string) { p.at += copy(p.file[p.at:], s) }

// writeFile makes the file of a valid image.
func writeFile(im api.Image, places plan) []byte {
	file := make([]byte, places.size)
	writeHead(file, im, places)
	writeParts(file, im.Segs, places)
	if len(im.Syms) > 0 {
		writeNames(file, im.Syms, places)
		writeSections(file, places)
	}
	return file
}

func writeHead(file []byte, im api.Image, places plan) {
	count, last := uint64(0), uint64(0)
	if len(im.Syms) > 0 {
		count, last = sectionCount, sectionsNumber
	}
	p := pen{file: file}
	p.text(identity)
	p.at = headKind
	p.put(2, executable, riscv)
	p.put(4, version)
	p.put(8, im.Entry, headSize, uint64(places.sections))
	p.put(4, compressed)
	p.put(2, headSize, programSize, uint64(len(im.Segs)), sectionSize, count, last)
}

func writeParts(file []byte, parts []api.Seg, places plan) {
	p := pen{file: file, at: headSize}
	for i, part := range parts {
		p.put(4, loaded, uint64(mirror(part.Flags)))
		p.put(8, uint64(places.data[i]), part.Addr, part.Addr, uint64(len(part.Data)), part.Size, 1)
		copy(file[places.data[i]:], part.Data)
	}
}

// writeNames writes the table and the texts side by side: the table tells where in the texts each one stands.
func writeNames(file []byte, names []api.Sym, places plan) {
	table := pen{file: file, at: places.table + entrySize}
	texts := pen{file: file, at: places.texts + 1}
	for _, name := range names {
		table.put(4, uint64(texts.at-places.texts))
		table.put(1, global, 0)
		table.put(2, absolute)
		table.put(8, name.Value, 0)
		texts.text(name.Name)
		texts.put(1, 0)
	}
}

// writeSections writes the sections' texts and headers; the first header stays all zeros.
func writeSections(file []byte, places plan) {
	own := pen{file: file, at: places.ownTexts}
	own.text(sectionTexts)
	p := pen{file: file, at: places.sections + sectionSize}
	p.section(tableText, tableKind, places.table, places.texts)
	p.put(4, textsNumber, 1)
	p.put(8, 8, entrySize)
	p.section(textsText, textsKind, places.texts, places.ownTexts)
	p.put(4, 0, 0)
	p.put(8, 1, 0)
	p.section(sectionsText, textsKind, places.ownTexts, own.at)
	p.put(4, 0, 0)
	p.put(8, 1, 0)
}

// section writes a section header up to its size; the section goes from one place up to another.
func (p *pen) section(text, kind uint64, from, to int) {
	p.put(4, text, kind)
	p.put(8, 0, 0, uint64(from), uint64(to-from))
}
