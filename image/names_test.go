package image_test

import (
	"bytes"
	"strconv"
	"strings"
	"testing"

	"anvil/api"
)

// entry is an entry of a table of names as a test lays it.
type entry struct {
	text    uint64
	kind    uint64
	section uint64
	value   uint64
}

// tableFile is a file without parts: the head, a table (its first entry is rubbish), texts, and headers of the two, the texts' first.
func tableFile(t *testing.T, texts string, entries ...entry) []byte {
	t.Helper()
	b := written(t, api.Image{})
	table := len(b)
	b = append(b, bytes.Repeat([]byte{0xff}, 24)...)
	for _, e := range entries {
		y := len(b)
		b = append(b, make([]byte, 24)...)
		put(b, y, 4, e.text)
		put(b, y+4, 1, e.kind)
		put(b, y+6, 2, e.section)
		put(b, y+8, 8, e.value)
	}
	place := len(b)
	b = append(b, texts...)
	s := len(b)
	b = append(b, make([]byte, 128)...)
	put(b, 40, 8, uint64(s))
	put(b, 60, 2, 2)
	put(b, s+4, 4, 3)
	put(b, s+24, 8, uint64(place))
	put(b, s+32, 8, uint64(len(texts)))
	s += 64
	put(b, s+4, 4, 2)
	put(b, s+24, 8, uint64(table))
	put(b, s+32, 8, uint64(place-table))
	put(b, s+40, 4, 0)
	put(b, s+56, 8, 24)
	return b
}

func TestP2_2NoSections(t *testing.T) {
	b := richFile(t)
	want := rich()
	want.Syms = nil
	wrong := []patch{{58, 2, 1}, {40, 8, last}}
	wantImage(t, "P2.2: no sections", patched(b, append(wrong, patch{60, 2, 0})...), want)
	wantImage(t, "P2.2: sections at 0", patched(b, patch{58, 2, 1}, patch{40, 8, 0}), want)
	for _, kind := range []uint64{0, 1, 3, 11, 0x102, 0x10002, 1 << 31} {
		wantImage(t, "P2.2: no table", patched(b, patch{richSections + 64 + 4, 4, kind}), want)
	}
	wantImage(t, "P2.2: the null section alone", patched(b, patch{60, 2, 1}), want)
}

func TestP2_2SectionsPlace(t *testing.T) {
	b := richFile(t)
	for _, place := range []uint64{richSections + 1, richSize, last, last - 255, 1 << 63, 1<<64 - 64*4} {
		wantFault(t, "P2.2: sections beyond the end", patched(b, patch{40, 8, place}), api.ErrEnd, 40)
	}
	for _, count := range []uint64{5, 256, 65535} {
		wantFault(t, "P2.2: too many sections", patched(b, patch{60, 2, count}), api.ErrEnd, 40)
	}
	odd := append(append(bytes.Clone(b), 0), b[richSections:]...) // at an odd place
	wantImage(t, "P2.2: sections elsewhere", patched(odd, patch{40, 8, richSize + 1}), rich())
}

func TestP2_2FirstTable(t *testing.T) {
	b := richFile(t)
	s := richSections
	wantImage(t, "P2.2: the second table is not looked at", patched(b, patch{s + 192 + 4, 4, 2}), rich())
	moved := bytes.Clone(b)
	copy(moved[s:], b[s+64:s+128])
	want := rich()
	wantImage(t, "P2.2: the table is section 0", patched(moved, patch{s + 64 + 56, 8, 1}), want)
	wantFault(t, "P2.2: the first table counts", patched(moved, patch{s + 56, 8, 1}), api.ErrSymbol, s+56)
}

func TestP2_2Table(t *testing.T) {
	b := richFile(t)
	s := richSections + 64
	for _, v := range []uint64{0, 1, 23, 25, 48, 1<<32 + 24, 1<<63 + 24} {
		wantFault(t, "P2.2: an entry's size", patched(b, patch{s + 56, 8, v}), api.ErrSymbol, s+56)
	}
	for _, v := range []uint64{1, 23, 25, 119, 121, last} {
		wantFault(t, "P2.2: the table's size", patched(b, patch{s + 32, 8, v}), api.ErrSymbol, s+32)
	}
	for _, v := range []uint64{24 * 18, 1 << 63 / 24 * 24, last / 24 * 24} { // there are 424 bytes
		wantFault(t, "P2.2: a table too long", patched(b, patch{s + 32, 8, v}), api.ErrEnd, s+24)
	}
	for _, v := range []uint64{richSize - 119, richSize, last, last - 119, last - 23} {
		wantFault(t, "P2.2: a table beyond the end", patched(b, patch{s + 24, 8, v}), api.ErrEnd, s+24)
	}
	want := rich()
	want.Syms = nil
	wantImage(t, "P2.2: a table with its first entry alone", patched(b, patch{s + 32, 8, 24}), want)
	wantImage(t, "P2.2: an empty table", patched(b, patch{s + 32, 8, 0}, patch{s + 24, 8, richSize}), want)
	wantFault(t, "P2.2: an empty table beyond the end", patched(b, patch{s + 32, 8, 0}, patch{s + 24, 8, richSize + 1}), api.ErrEnd, s+24)
	want.Syms = rich().Syms[:1]
	wantImage(t, "P2.2: a table with one name", patched(b, patch{s + 32, 8, 48}), want)
}

func TestP2_2Texts(t *testing.T) {
	b := richFile(t)
	s, w := richSections+64, richSections+128
	for _, v := range []uint64{4, 5, 65536, 1 << 31, 1<<32 - 1} {
		wantFault(t, "P2.2: no such section", patched(b, patch{s + 40, 4, v}), api.ErrSymbol, s+40)
	}
	for _, v := range []uint64{0, 1} {
		wantFault(t, "P2.2: a section of another kind", patched(b, patch{s + 40, 4, v}), api.ErrSymbol, s+40)
	}
	wantFault(t, "P2.2: texts of another kind", patched(b, patch{w + 4, 4, 0x103}), api.ErrSymbol, s+40)
	wantFault(t, "P2.2: texts too long", patched(b, patch{w + 32, 8, richSize - richTexts + 1}), api.ErrEnd, w+24)
	wantFault(t, "P2.2: texts of the greatest size", patched(b, patch{w + 32, 8, last}), api.ErrEnd, w+24)
	for _, v := range []uint64{richSize - 18, last, last - 18, 1 << 63} {
		wantFault(t, "P2.2: texts beyond the end", patched(b, patch{w + 24, 8, v}), api.ErrEnd, w+24)
	}
	wantImage(t, "P2.2: texts up to the end of the file", patched(b, patch{w + 32, 8, richSize - richTexts}), rich())
	own := patched(b, patch{s + 40, 4, 3}, patch{richTable + 24, 4, 1}, patch{richTable + 48, 4, 9}, patch{richTable + 72, 4, 17}, patch{richTable + 96, 4, 26})
	want := rich()
	want.Syms = []api.Sym{{Name: ".symtab", Value: 1}, {Name: ".shstrtab", Value: 0x1000}, {Name: ".strtab", Value: 0x1000}}
	wantImage(t, "P2.2: other texts", own, want)
	none := patched(b, patch{w + 32, 8, 0}, patch{s + 32, 8, 24})
	want.Syms = nil
	wantImage(t, "P2.2: no texts and no names", none, want)
	wantFault(t, "P2.2: no texts, beyond the end", patched(none, patch{w + 24, 8, richSize + 1}), api.ErrEnd, w+24)
}

func TestP2_2EntrysText(t *testing.T) {
	const first = 64 + 24
	texts := "ab\x00cd" // the last one has no end
	got := func(all ...api.Sym) api.Image { return names(all...) }
	wantImage(t, "P2.2: a text", tableFile(t, texts, entry{0, 0, 1, 7}), got(api.Sym{Name: "ab", Value: 7}))
	wantImage(t, "P2.2: from its middle on", tableFile(t, texts, entry{1, 0, 1, 7}), got(api.Sym{Name: "b", Value: 7}))
	wantImage(t, "P2.2: an empty text", tableFile(t, texts, entry{2, 0, 1, 7}), api.Image{})
	for _, at := range []uint64{3, 4, 5, 6, 64, 1 << 31, 1<<32 - 1} {
		for _, kind := range []uint64{0, 3, 4} {
			wantFault(t, "P2.2: a text without an end, or none", tableFile(t, texts, entry{at, kind, 0, 7}), api.ErrSymbol, first)
		}
		wantFault(t, "P2.2: the second one's text", tableFile(t, texts, entry{0, 0, 1, 7}, entry{at, 0, 1, 7}), api.ErrSymbol, first+24)
	}
	wantFault(t, "P2.2: no texts at all", tableFile(t, "", entry{0, 0, 1, 7}), api.ErrSymbol, first)
	wantFault(t, "P2.2: a zero behind the texts", patched(richFile(t), patch{richSections + 128 + 32, 8, 18}), api.ErrSymbol, richTable+96)
}

func TestP2_2EntriesPassedOver(t *testing.T) {
	want := names(api.Sym{Name: "a", Value: 7})
	for kind := range uint64(256) {
		expected := want
		if kind%16 == 3 || kind%16 == 4 {
			expected = api.Image{}
		}
		wantImage(t, "P2.2: the entry's kind "+strconv.Itoa(int(kind)), tableFile(t, "a\x00", entry{0, kind, 1, 7}), expected)
	}
	for _, section := range []uint64{1, 2, 0x100, 0xff00, 0xfff1, 0xffff} {
		wantImage(t, "P2.2: the entry's section", tableFile(t, "a\x00", entry{0, 0, section, 7}), want)
	}
	wantImage(t, "P2.2: an undefined entry", tableFile(t, "a\x00", entry{0, 0, 0, 7}), api.Image{})
	for _, text := range []string{"1x", "$x", "a b", "a\xff", "a@b", strings.Repeat("a", 41), strings.Repeat("ä", 41), strings.Repeat("a", 39) + "\xc3", strings.Repeat("x", 5000)} {
		wantImage(t, "P2.2: no name", tableFile(t, text+"\x00a\x00", entry{0, 0, 1, 7}, entry{uint64(len(text)) + 1, 0, 1, 7}), want)
	}
	for _, text := range []string{"größe", ".", strings.Repeat("a", 40), strings.Repeat("𝒳", 40)} {
		wantImage(t, "P2.2: a name", tableFile(t, text+"\x00", entry{0, 0, 1, 7}), names(api.Sym{Name: text, Value: 7}))
	}
}

func TestP2_2Twice(t *testing.T) {
	texts := "a\x00b\x00a\x00"
	sym := func(name string, value uint64) api.Sym { return api.Sym{Name: name, Value: value} }
	wantImage(t, "P2.2: the same twice", tableFile(t, texts, entry{0, 0, 1, 7}, entry{2, 0, 1, 7}, entry{4, 1, 2, 7}, entry{0, 0, 1, 7}), names(sym("a", 7), sym("b", 7)))
	wantImage(t, "P2.2: one name, two values", tableFile(t, texts, entry{0, 0, 1, 7}, entry{4, 0, 1, 6}), names(sym("a", 6), sym("a", 7)))
	wantImage(t, "P2.2: the first of the two is passed over", tableFile(t, texts, entry{0, 3, 1, 7}, entry{4, 0, 1, 7}), names(sym("a", 7)))
	sorted := tableFile(t, "b\x00ä\x00Z\x00a\x00", entry{0, 0, 1, last}, entry{0, 0, 1, 7}, entry{2, 0, 1, 7}, entry{5, 0, 1, 7}, entry{7, 0, 1, 7}, entry{7, 0, 1, 0})
	wantImage(t, "P2.2: names are sorted", sorted, names(sym("a", 0), sym("Z", 7), sym("a", 7), sym("b", 7), sym("ä", 7), sym("b", last)))
}

func TestP2_2ManyNames(t *testing.T) {
	var all []entry
	for i := range 400 {
		all = append(all, entry{0, 0, 1, uint64(i)})
		all = append(all, entry{0, 0, 1, uint64(i / 2)}, entry{1, 0, 1, 9}, entry{0, 4, 1, 1000}, entry{0, 0, 0, 1001}) // an earlier one again, and some that are none
	}
	wantImage(t, "P2.2: 400 names among others", tableFile(t, "n\x00", all...), names(manyNames(400)...))
	all = append(all, entry{0, 0, 1, 0}, entry{0, 3, 1, 5000})
	wantImage(t, "P2.2: and one of them again", tableFile(t, "n\x00", all...), names(manyNames(400)...))
	at := 64 + 24*(1+len(all))
	all = append(all, entry{0, 0, 1, 5000}, entry{9, 0, 1, 0})
	wantFault(t, "P2.2: 401 names", tableFile(t, "n\x00", all...), api.ErrMany, at)
	wantFault(t, "P2.2: a faulty entry ahead of the name too many", patched(tableFile(t, "n\x00", all...), patch{at - 24, 4, 2}), api.ErrSymbol, at-24)
	wantFault(t, "P2.2: a name too many with a faulty text", patched(tableFile(t, "n\x00", all...), patch{at, 4, 2}), api.ErrSymbol, at)
}

// Long texts that all entries share are no trouble.
func TestP2_2LongTexts(t *testing.T) {
	var all []entry
	for i := range 4000 {
		all = append(all, entry{uint64(i), 0, 1, uint64(i)})
	}
	wantImage(t, "P2.2: long texts", tableFile(t, strings.Repeat("x", 100000)+"\x00", all...), api.Image{})
}
