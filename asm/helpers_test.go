package asm_test

import (
	"bytes"
	"encoding/binary"
	"errors"
	"slices"
	"strconv"
	"strings"
	"testing"

	"anvil/api"
	"anvil/asm"
	"anvil/image"
	"anvil/speak"
)

// made assembles what must have no fault.
func made(t *testing.T, src string) api.Image {
	t.Helper()
	im, err := asm.Assemble(src)
	if err != nil {
		t.Fatalf("%q: %v", shown(src), err)
	}
	if why := image.Check(im); why != api.OK {
		t.Fatalf("P8.3: %q: the image is not valid: %v", shown(src), why)
	}
	return im
}

// textOf is the bytes of .text.
func textOf(t *testing.T, src string) []byte {
	t.Helper()
	im := made(t, src)
	if len(im.Segs) == 0 {
		return nil
	}
	if im.Segs[0].Addr != api.RamBase {
		t.Fatalf("%q: no .text: %+v", src, im)
	}
	return im.Segs[0].Data
}

// gives: a source's .text must be these bytes.
func gives(t *testing.T, src string, want ...byte) {
	t.Helper()
	if got := textOf(t, src); !bytes.Equal(got, want) {
		t.Errorf("%q: % x, want % x", src, got, want)
	}
}

// says: a source's .text must be the bytes of these instructions, as chapter 7 reads them.
func says(t *testing.T, src string, texts ...string) {
	t.Helper()
	if got, want := textOf(t, src), spoken(t, texts...); !bytes.Equal(got, want) {
		t.Errorf("%q: %q, want %q", src, speak.List(got, api.RamBase), texts)
	}
}

// spoken: the bytes of instructions' texts, from RamBase on.
func spoken(t *testing.T, texts ...string) []byte {
	t.Helper()
	var b []byte
	for _, text := range texts {
		in, why := speak.Parse(text, api.RamBase+uint64(len(b)))
		if why != api.OK {
			t.Fatalf("%q is no instruction: %v", text, why)
		}
		b = binary.LittleEndian.AppendUint32(b, in.Raw)[:len(b)+in.Len]
	}
	return b
}

// refused: a source must have this first fault, as errors.Is and errors.As find it, and nothing else.
func refused(t *testing.T, src string, line, at int, why api.Errno) {
	t.Helper()
	im, err := asm.Assemble(src)
	var f *api.Fault
	switch {
	case !errors.As(err, &f) || !errors.Is(err, why):
		t.Errorf("%q: %v, want %v at %d of line %d", shown(src), err, why, at, line)
	case *f != api.Fault{Line: line, At: at, Why: why}:
		t.Errorf("%q: %v, want %v at %d of line %d", shown(src), err, why, at, line)
	case im.Entry != 0 || im.Segs != nil || im.Syms != nil:
		t.Errorf("%q: an image beside the fault: %+v", shown(src), im)
	}
}

// worth: an expression's value.
func worth(t *testing.T, expr string, want uint64, names ...api.Sym) {
	t.Helper()
	if got, err := asm.Value(expr, names); err != nil || got != want {
		t.Errorf("Value(%q) = %#x, %v, want %#x", shown(expr), got, err, want)
	}
}

// worthless: an expression's fault; its line is 0.
func worthless(t *testing.T, expr string, at int, why api.Errno, names ...api.Sym) {
	t.Helper()
	got, err := asm.Value(expr, names)
	var f *api.Fault
	if !errors.As(err, &f) || !errors.Is(err, why) || *f != (api.Fault{At: at, Why: why}) || got != 0 {
		t.Errorf("Value(%q) = %#x, %v, want %v at %d", shown(expr), got, err, why, at)
	}
}

// shown: the beginning of a text that may be long.
func shown(text string) string {
	if len(text) > 300 {
		return text[:300] + " .."
	}
	return text
}

// same tells whether two images are the same.
func same(a, b api.Image) bool {
	sameSeg := func(x, y api.Seg) bool {
		return x.Addr == y.Addr && x.Size == y.Size && x.Flags == y.Flags && bytes.Equal(x.Data, y.Data)
	}
	return a.Entry == b.Entry && slices.Equal(a.Syms, b.Syms) && slices.EqualFunc(a.Segs, b.Segs, sameSeg)
}

// held: Assemble must answer what the model does; it tells the fault, OK if there is none.
func held(t *testing.T, src string) api.Errno {
	t.Helper()
	im, err := asm.Assemble(src)
	want, fault := modelAssemble(src)
	if fault == nil {
		if err != nil || !same(im, want) {
			t.Fatalf("%q:\n%+v, %v, want\n%+v", shown(src), im, err, want)
		}
		if why := image.Check(im); why != api.OK {
			t.Fatalf("P8.3: %q: %v", shown(src), why)
		}
		return api.OK
	}
	var f *api.Fault
	if !errors.As(err, &f) || *f != *fault || !same(im, api.Image{}) {
		t.Fatalf("%q:\n%+v, %v, want %v", shown(src), im, err, fault)
	}
	return fault.Why
}

// heldValue: Value must answer what the model does.
func heldValue(t *testing.T, expr string, names []api.Sym) api.Errno {
	t.Helper()
	v, err := asm.Value(expr, names)
	want, fault := modelValue(expr, names)
	if fault == nil {
		if err != nil || v != want {
			t.Fatalf("Value(%q) = %#x, %v, want %#x", expr, v, err, want)
		}
		return api.OK
	}
	var f *api.Fault
	if !errors.As(err, &f) || *f != *fault || v != 0 {
		t.Fatalf("Value(%q) = %#x, %v, want %v", expr, v, err, fault)
	}
	return fault.Why
}

// joined: lines, each with its end.
func joined(lines ...string) string { return strings.Join(lines, "\n") + "\n" }

// signedText and hexText: numbers as sources and chapter 7 write them.
func signedText(v int64) string { return strconv.FormatInt(v, 10) }

func hexText(v uint64) string { return "0x" + strconv.FormatUint(v, 16) }
