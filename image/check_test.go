package image_test

import (
	"math"
	"strconv"
	"strings"
	"testing"

	"anvil/api"
	"anvil/image"
)

const last = math.MaxUint64

func wantCheck(t *testing.T, what string, im api.Image, want api.Errno) {
	t.Helper()
	if got := image.Check(im); got != want {
		t.Errorf("P2.1: %s: Check answers %d, want %d", what, got, want)
	}
	b, got := image.Write(im)
	if got != want || (b == nil) != (want != api.OK) {
		t.Errorf("P2.4: %s: Write answers %d bytes and %d, want %d", what, len(b), got, want)
	}
}

func parts(all ...api.Seg) api.Image { return api.Image{Segs: all} }

func names(all ...api.Sym) api.Image { return api.Image{Syms: all} }

// manyParts are parts of one byte each, side by side.
func manyParts(count int) []api.Seg {
	var all []api.Seg
	for i := range count {
		all = append(all, api.Seg{Addr: uint64(i), Size: 1})
	}
	return all
}

func manyNames(count int) []api.Sym {
	var all []api.Sym
	for i := range count {
		all = append(all, api.Sym{Name: "n", Value: uint64(i)})
	}
	return all
}

func TestP2_1Entry(t *testing.T) {
	for _, entry := range []uint64{0, 2, 0x80000000, last - 1} {
		wantCheck(t, "an even entry", api.Image{Entry: entry}, api.OK)
		wantCheck(t, "an odd entry", api.Image{Entry: entry + 1}, api.ErrHeader)
	}
}

func TestP2_1Counts(t *testing.T) {
	wantCheck(t, "16 parts", parts(manyParts(16)...), api.OK)
	wantCheck(t, "17 parts", parts(manyParts(17)...), api.ErrMany)
	wantCheck(t, "400 names", names(manyNames(400)...), api.OK)
	wantCheck(t, "401 names", names(manyNames(401)...), api.ErrMany)
	wantCheck(t, "16 parts and 400 names", api.Image{Segs: manyParts(16), Syms: manyNames(400)}, api.OK)
}

func TestP2_1Part(t *testing.T) {
	for _, c := range []struct {
		what string
		part api.Seg
		want api.Errno
	}{
		{"Size 0", api.Seg{Addr: 8}, api.ErrSegment},
		{"Size 0 at address 0", api.Seg{}, api.ErrSegment},
		{"Size 0 with Data", api.Seg{Data: []byte{1}}, api.ErrSegment},
		{"Size 1", api.Seg{Addr: 8, Size: 1}, api.OK},
		{"Flags -1", api.Seg{Size: 1, Flags: -1}, api.ErrSegment},
		{"Flags 8", api.Seg{Size: 1, Flags: 8}, api.ErrSegment},
		{"the least Flags", api.Seg{Size: 1, Flags: math.MinInt}, api.ErrSegment},
		{"the greatest Flags", api.Seg{Size: 1, Flags: math.MaxInt}, api.ErrSegment},
		{"Data as long as Size", api.Seg{Size: 3, Data: []byte("abc")}, api.OK},
		{"Data longer than Size", api.Seg{Size: 2, Data: []byte("abc")}, api.ErrSegment},
		{"empty Data", api.Seg{Size: 2, Data: []byte{}}, api.OK},
		{"the last address alone", api.Seg{Addr: last, Size: 1}, api.OK},
		{"one beyond the last address", api.Seg{Addr: last, Size: 2}, api.ErrSegment},
		{"up to the last address", api.Seg{Addr: last - 9, Size: 10}, api.OK},
		{"from 10 ahead of the end, 11", api.Seg{Addr: last - 9, Size: 11}, api.ErrSegment},
		{"all addresses but the last", api.Seg{Size: last}, api.OK},
		{"all addresses but the first", api.Seg{Addr: 1, Size: last}, api.OK},
		{"the greatest Size from 2 on", api.Seg{Addr: 2, Size: last}, api.ErrSegment},
		{"greatest Addr and Size", api.Seg{Addr: last, Size: last}, api.ErrSegment},
	} {
		wantCheck(t, c.what, parts(c.part), c.want)
	}
	for flags := range 8 {
		wantCheck(t, "Flags from 0 to 7", parts(api.Seg{Size: 1, Flags: flags}), api.OK)
	}
}

func TestP2_1PartsRise(t *testing.T) {
	part := func(addr, size uint64) api.Seg { return api.Seg{Addr: addr, Size: size} }
	for _, c := range []struct {
		what string
		im   api.Image
		want api.Errno
	}{
		{"side by side", parts(part(0x1000, 16), part(0x1010, 1)), api.OK},
		{"meeting in the last byte", parts(part(0x1000, 16), part(0x100f, 1)), api.ErrOverlap},
		{"within", parts(part(0x1000, 16), part(0x1008, 1)), api.ErrOverlap},
		{"the same", parts(part(0x1000, 16), part(0x1000, 16)), api.ErrOverlap},
		{"falling", parts(part(0x1008, 1), part(0x1000, 1)), api.ErrOverlap},
		{"up to the last address, and the first", parts(part(last-1, 2), part(0, 1)), api.ErrOverlap},
		{"up to the last address, and it again", parts(part(last-1, 2), part(last, 1)), api.ErrOverlap},
		{"all but the last address, and it", parts(part(0, last), part(last, 1)), api.OK},
		{"the third meets the second", parts(part(0, 1), part(8, 8), part(15, 1)), api.ErrOverlap},
		{"a faulty part that also meets", parts(part(8, 8), part(8, 0)), api.ErrSegment},
		{"a part that meets, then a faulty one", parts(part(8, 8), part(8, 8), part(9, 0)), api.ErrOverlap},
		{"a faulty part, then one that meets", parts(part(8, 8), part(100, 0), part(9, 8)), api.ErrSegment},
	} {
		wantCheck(t, c.what, c.im, c.want)
	}
}

func TestP2_1Names(t *testing.T) {
	for _, name := range []string{
		"x", "_start", ".L1", "größe", "a$1", ".", "_", "..", "_0", ".$", "A9", "Δ", "字", "𝒳", "ªº", "aʰ",
		strings.Repeat("a", 40), strings.Repeat("ä", 40), strings.Repeat("字", 40), strings.Repeat("𝒳", 40), "." + strings.Repeat("9", 39),
	} {
		wantCheck(t, "the name "+name, names(api.Sym{Name: name}), api.OK)
	}
	for _, name := range []string{
		"", "1x", "0", "$x", "$", "a b", " a", "a ", "a-b", "a\x00", "\x00", "a\n", "a@plt", "a%b", "a/b", "a:b", "a\x7f", "a\u00a0b",
		"a٣", "٣", "aⅧ", "a²", "e\u0301", "a\u200d", "a€", "a\ufffd", "\ufffd", "a\ufeff",
		"a\xff", "\xff", "a\xc3", "\xc3", "a\xc0\x80", "a\xed\xa0\x80", "a\xf4\x90\x80\x80", "\xe5\xad", "\x80",
		strings.Repeat("a", 41), strings.Repeat("ä", 41), strings.Repeat("𝒳", 41), strings.Repeat("a", 1000000),
		strings.Repeat("a", 39) + "\xff", strings.Repeat("a", 40) + "\xff",
	} {
		wantCheck(t, "no name: "+strconv.Quote(name[:min(len(name), 200)]), names(api.Sym{Name: name}), api.ErrName)
	}
	inside := "0123456789_.$ABCDEFGHIJKLMNOPQRSTUVWXYZabcdefghijklmnopqrstuvwxyz"
	for c := range 128 {
		want := api.ErrName
		if strings.IndexByte(inside, byte(c)) >= 0 {
			want = api.OK
		}
		wantCheck(t, "a and one byte", names(api.Sym{Name: "a" + string(rune(c))}), want)
		if strings.IndexByte("0123456789$", byte(c)) >= 0 {
			want = api.ErrName
		}
		wantCheck(t, "one byte", names(api.Sym{Name: string(rune(c))}), want)
	}
}

func TestP2_1NamesRise(t *testing.T) {
	sym := func(name string, value uint64) api.Sym { return api.Sym{Name: name, Value: value} }
	for _, c := range []struct {
		what string
		im   api.Image
		want api.Errno
	}{
		{"rising names", names(sym("a", 1), sym("b", 1)), api.OK},
		{"falling names", names(sym("b", 1), sym("a", 1)), api.ErrSymbol},
		{"falling names, rising values", names(sym("b", 1), sym("a", 2)), api.OK},
		{"rising names, falling values", names(sym("a", 2), sym("b", 1)), api.ErrSymbol},
		{"the same twice", names(sym("a", 1), sym("a", 1)), api.ErrSymbol},
		{"one name, two values", names(sym("a", 1), sym("a", 2)), api.OK},
		{"a beginning of the next", names(sym("a", 1), sym("a.", 1)), api.OK},
		{"the next is its beginning", names(sym("a.", 1), sym("a", 1)), api.ErrSymbol},
		{"capitals stand ahead", names(sym("Z", 1), sym("a", 1)), api.OK},
		{"bytes, not the alphabet", names(sym("z", 1), sym("ä", 1)), api.OK},
		{"bytes, not 16 bit codes", names(sym("ｚ", 1), sym("𝒳", 1)), api.OK},
		{"values without a sign", names(sym("a", 1), sym("a", last)), api.OK},
		{"from the last value to 0", names(sym("a", last), sym("b", 0)), api.ErrSymbol},
		{"no name that also falls", names(sym("b", 1), sym("", 0)), api.ErrName},
		{"a fall, then no name", names(sym("b", 1), sym("a", 1), sym("", 2)), api.ErrSymbol},
		{"no name, then a fall", names(sym("b", 1), sym("1", 2), sym("a", 1)), api.ErrName},
	} {
		wantCheck(t, c.what, c.im, c.want)
	}
}

func TestP2_1Length(t *testing.T) {
	long := func(length int) api.Seg {
		return api.Seg{Addr: 1 << 30, Size: 1 << 30, Data: make([]byte, length)}
	}
	wantCheck(t, "MaxFile bytes", parts(long(200000-120)), api.OK)
	wantCheck(t, "MaxFile + 1 bytes", parts(long(200000-119)), api.ErrLong)
	// The second Data begins at a multiple of 8: 64 + 2 * 56 + 1 and 7 bytes 0 are 184.
	short := api.Seg{Size: 1, Data: []byte{1}}
	wantCheck(t, "MaxFile bytes with a gap", parts(short, long(200000-184)), api.OK)
	wantCheck(t, "MaxFile + 1 bytes with a gap", parts(short, long(200000-183)), api.ErrLong)
	// The headers of the sections end at a multiple of 8, and so does MaxFile.
	named := func(length int) api.Image {
		return api.Image{Segs: []api.Seg{long(length)}, Syms: []api.Sym{{Name: "_start"}}}
	}
	wantCheck(t, "MaxFile bytes with a name", named(200000-120-344), api.OK)
	wantCheck(t, "MaxFile + 8 bytes with a name", named(200000-120-343), api.ErrLong)
	wantCheck(t, "far too long", parts(long(1<<24)), api.ErrLong)
}

// Of two faults the one that stands first in P2.1 is told.
func TestP2_1Order(t *testing.T) {
	faults := []struct {
		lay  func(im *api.Image)
		want api.Errno
	}{
		{func(im *api.Image) { im.Entry = 1 }, api.ErrHeader},
		{func(im *api.Image) { im.Segs = append(im.Segs, manyParts(17)...) }, api.ErrMany},
		{func(im *api.Image) { im.Segs[0].Size = 0 }, api.ErrSegment},
		{func(im *api.Image) { im.Segs[1].Addr = 0x1000 }, api.ErrOverlap},
		{func(im *api.Image) { im.Segs[2].Flags = 8 }, api.ErrSegment},
		{func(im *api.Image) { im.Syms[0].Name = "" }, api.ErrName},
		{func(im *api.Image) { im.Syms[1].Value = 0 }, api.ErrSymbol},
		{func(im *api.Image) { im.Syms[3].Name = "$" }, api.ErrName},
		{func(im *api.Image) { im.Segs[1].Size, im.Segs[1].Data = 300000, make([]byte, 300000) }, api.ErrLong},
	}
	for i, first := range faults {
		for _, second := range faults[i:] {
			im := rich()
			second.lay(&im)
			first.lay(&im)
			wantCheck(t, "two faults", im, first.want)
		}
	}
	im := api.Image{Entry: 1, Segs: make([]api.Seg, 17), Syms: make([]api.Sym, 401)}
	wantCheck(t, "all at once", im, api.ErrHeader)
	im.Entry = 0
	wantCheck(t, "too many, and no parts", im, api.ErrMany)
	im.Segs = im.Segs[:16]
	wantCheck(t, "too many names, and no parts", im, api.ErrMany)
	im.Syms = im.Syms[:400]
	wantCheck(t, "no parts and no names", im, api.ErrSegment)
}
