package image_test

import (
	"bytes"
	"encoding/binary"
	"errors"
	"math/rand/v2"
	"strconv"
	"strings"
	"testing"

	"anvil/api"
	"anvil/image"
)

// Places of the file of rich(): its headers, its table, its sections.
const (
	richPrograms = 64
	richTable    = 256
	richTexts    = richTable + 24*5
	richOwnTexts = richTexts + 1 + 2 + 4 + 4 + 8
	richSections = 424
	richSize     = richSections + 4*64
)

// rich has a bit of everything: a part with Data, one with Data and zeros behind it, one of zeros alone, and names.
func rich() api.Image {
	return api.Image{
		Entry: 0x80000002,
		Segs: []api.Seg{
			{Addr: 0x1000, Size: 5, Flags: api.R + api.X, Data: []byte("abcde")},
			{Addr: 0x2000, Size: 64, Flags: api.R + api.W, Data: []byte("0123456789")},
			{Addr: 0x80000000, Size: 1 << 40, Flags: api.X},
		},
		Syms: []api.Sym{{Name: "z", Value: 1}, {Name: ".L1", Value: 0x1000}, {Name: "a$1", Value: 0x1000}, {Name: "größe", Value: 1<<64 - 1}},
	}
}

// written is the file of an image that can be written.
func written(t *testing.T, im api.Image) []byte {
	t.Helper()
	b, e := image.Write(im)
	if e != api.OK {
		t.Fatalf("Write answers error %d", e)
	}
	return b
}

// richFile is the file of rich(), of which the tests know every place.
func richFile(t *testing.T) []byte {
	t.Helper()
	b := written(t, rich())
	if len(b) != richSize {
		t.Fatalf("the file has %d bytes, want %d", len(b), richSize)
	}
	return b
}

// put lays a number of so many bytes into a file.
func put(b []byte, at, size int, v uint64) {
	var whole [8]byte
	binary.LittleEndian.PutUint64(whole[:], v)
	copy(b[at:at+size], whole[:size])
}

// patch is a number that a test lays into a file.
type patch struct {
	at, size int
	v        uint64
}

func patched(b []byte, patches ...patch) []byte {
	b = bytes.Clone(b)
	for _, p := range patches {
		put(b, p.at, p.size, p.v)
	}
	return b
}

// wantFault: Read must find just this.
func wantFault(t *testing.T, what string, b []byte, why api.Errno, at int) {
	t.Helper()
	im, err := image.Read(b)
	fault, ok := err.(*api.Fault)
	if !ok || *fault != (api.Fault{At: at, Why: why}) {
		t.Errorf("%s: Read answers %v, want error %d at %d", what, err, why, at)
		return
	}
	var found *api.Fault
	if !errors.Is(err, why) || !errors.As(err, &found) || found != fault {
		t.Errorf("%s: errors.Is and errors.As do not find error %d", what, why)
	}
	if im.Entry != 0 || len(im.Segs) != 0 || len(im.Syms) != 0 {
		t.Errorf("%s: beside an error stands the image %+v", what, im)
	}
}

// wantImage: Read must answer just this.
func wantImage(t *testing.T, what string, b []byte, want api.Image) {
	t.Helper()
	if im, err := image.Read(b); err != nil || !same(im, want) {
		t.Errorf("%s: Read answers %v and %v, want %v", what, brief(im), err, brief(want))
	}
}

// same compares images; nil and an empty list are the same.
func same(a, b api.Image) bool {
	if a.Entry != b.Entry || len(a.Segs) != len(b.Segs) || len(a.Syms) != len(b.Syms) {
		return false
	}
	for i, x := range a.Segs {
		y := b.Segs[i]
		if x.Addr != y.Addr || x.Size != y.Size || x.Flags != y.Flags || !bytes.Equal(x.Data, y.Data) {
			return false
		}
	}
	for i, x := range a.Syms {
		if x != b.Syms[i] {
			return false
		}
	}
	return true
}

// brief tells an image in one line, long Data by its length.
func brief(im api.Image) string {
	var s strings.Builder
	s.WriteString("entry " + strconv.FormatUint(im.Entry, 16))
	for _, p := range im.Segs {
		s.WriteString("; part " + strconv.FormatUint(p.Addr, 16) + " size " + strconv.FormatUint(p.Size, 16) + " flags " + strconv.Itoa(p.Flags) + " bytes " + strconv.Itoa(len(p.Data)))
	}
	for _, n := range im.Syms {
		s.WriteString("; name " + strconv.Quote(n.Name) + " " + strconv.FormatUint(n.Value, 16))
	}
	return s.String()
}

// dice are the same in every run.
func dice(seed uint64) *rand.Rand { return rand.New(rand.NewPCG(seed, 2)) }

// randomImage is a valid one: parts rise, names stand in their order.
func randomImage(r *rand.Rand) api.Image {
	im := api.Image{Entry: r.Uint64() &^ 1}
	address := r.Uint64N(8)
	for range r.IntN(api.MaxParts + 1) {
		part := api.Seg{Addr: address, Size: 1 + r.Uint64N(1<<(1+r.IntN(55))), Flags: r.IntN(8)}
		part.Data = make([]byte, r.Uint64N(min(part.Size, 40)+1))
		for i := range part.Data {
			part.Data[i] = byte(r.Uint32())
		}
		im.Segs = append(im.Segs, part)
		address += part.Size + r.Uint64N(3)*r.Uint64N(1<<30)
	}
	value := r.Uint64N(8)
	for i := range r.IntN(30) {
		im.Syms = append(im.Syms, api.Sym{Name: randomName(r, i), Value: value})
		value += r.Uint64N(2) * r.Uint64N(1<<50)
	}
	return im
}

// randomName rises with i: two runes tell i, others follow.
func randomName(r *rand.Rand, i int) string {
	name := []rune{rune('a' + i/26), rune('a' + i%26)}
	letters := []rune("09_.$zZäλ字𝒳")
	for range r.IntN(api.MaxName - 1) {
		name = append(name, letters[r.IntN(len(letters))])
	}
	return string(name)
}
