package image

import (
	"bytes"
	"slices"

	"anvil/api"
)

// sections tells where the section headers begin, and how many there are.
type sections struct {
	first int
	count uint64
}

// header is where a section's header begins.
func (s sections) header(number int) int { return s.first + sectionSize*number }

// names reads the names, if the file has a table of them.
func (r reader) names() []api.Sym {
	count := r.half(headSectionCount)
	if count == 0 || r.double(headSections) == 0 {
		return nil
	}
	refuse(r.half(headSectionSize) != sectionSize, api.ErrHeader, headSectionSize)
	all := sections{r.placeAt(headSections, sectionSize*count), count}
	for i := range int(count) {
		if header := all.header(i); r.word(header+sectionKind) == tableKind {
			return r.tableNames(all, header)
		}
	}
	return nil
}

// tableNames reads the table that has this header.
func (r reader) tableNames(all sections, header int) []api.Sym {
	refuse(r.double(header+sectionEntry) != entrySize, api.ErrSymbol, header+sectionEntry)
	size := r.double(header + sectionLength)
	refuse(size%entrySize != 0, api.ErrSymbol, header+sectionLength)
	table := r.placeAt(header+sectionPlace, size)
	texts := r.texts(all, header)
	var names []api.Sym
	for entry := table + entrySize; entry < table+int(size); entry += entrySize {
		name, is := r.name(entry, texts)
		if !is || slices.Contains(names, name) {
			continue
		}
		refuse(len(names) == api.MaxLabels, api.ErrMany, entry)
		names = append(names, name)
	}
	slices.SortFunc(names, compareNames)
	return names
}

// texts is the section of texts that a table's header points to, a piece of the file itself.
func (r reader) texts(all sections, header int) []byte {
	number := r.word(header + sectionLink)
	refuse(number >= all.count, api.ErrSymbol, header+sectionLink)
	own := all.header(int(number))
	refuse(r.word(own+sectionKind) != textsKind, api.ErrSymbol, header+sectionLink)
	size := r.double(own + sectionLength)
	place := r.placeAt(own+sectionPlace, size)
	return r.file[place : place+int(size)]
}

// name reads an entry of the table; false, if it is passed over.
func (r reader) name(entry int, texts []byte) (api.Sym, bool) {
	start := r.word(entry + entryText)
	refuse(start >= uint64(len(texts)), api.ErrSymbol, entry)
	text, _, ends := bytes.Cut(texts[start:], []byte{0})
	refuse(!ends, api.ErrSymbol, entry)
	kind := r.file[entry+entryKind] & lowFourBits
	if kind == ofSection || kind == ofFile || r.half(entry+entrySection) == undefined {
		return api.Sym{}, false
	}
	// Many entries may share one long text: it is not copied for each of them.
	if len(text) > longestName || !isName(string(text)) {
		return api.Sym{}, false
	}
	return api.Sym{Name: string(text), Value: r.double(entry + entryValue)}, true
}
