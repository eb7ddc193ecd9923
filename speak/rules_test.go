package speak_test

import (
	"bytes"
	"slices"
	"strings"
	"sync"
	"testing"

	"anvil/api"
	"anvil/speak"
)

// TestRule1: every call ends and none panics.
func TestRule1(t *testing.T) {
	r := random(60)
	for range 3000 {
		b := make([]byte, r.IntN(40))
		for i := range b {
			b[i] = byte(r.Uint32())
		}
		text := string(b)
		speak.RegOf(text)
		speak.CsrOf(text)
		speak.Reg(int(r.Uint64()))
		speak.Csr(int(r.Uint64()))
		speak.List(b, r.Uint64())
		if in, e := speak.Parse(text, r.Uint64()); e != api.OK && in != (api.Instr{}) {
			t.Errorf("rule 2: Parse(%q) = %+v, %d", text, in, e)
		}
	}
	for n := range 256 {
		for _, text := range []string{string([]byte{byte(n)}), "addi " + string([]byte{byte(n)}), "c.nop " + string([]byte{byte(n)}), "fence " + string([]byte{byte(n)}) + ", 0"} {
			readsAsModel(t, text, ram)
		}
	}
}

// TestRule3List: the bytes that are listed stay as they are, their spare room too, and two answers share nothing.
func TestRule3List(t *testing.T) {
	r := random(61)
	all := anyBytes(r, 20)
	kept := bytes.Clone(all)
	b := all[: len(all)/2 : len(all)]
	one := speak.List(b, ram)
	two := speak.List(b, ram)
	if !bytes.Equal(all, kept) {
		t.Error("rule 3: List changed its bytes")
	}
	want := slices.Clone(two)
	for i := range one[:cap(one)] {
		one[:cap(one)][i] = "changed"
	}
	if !slices.Equal(two, want) {
		t.Error("rule 3: two answers share memory")
	}
	clear(all)
	if !slices.Equal(two, want) {
		t.Error("rule 3: an answer shares memory with the bytes")
	}
}

// TestRule4: the same call answers the same, whoever else calls.
func TestRule4(t *testing.T) {
	var wait sync.WaitGroup
	for seed := range uint64(8) {
		wait.Go(func() {
			r := random(62 + seed%2)
			for range 300 {
				raw, pc := anyOf(r, drawings[r.IntN(len(drawings))]), anyPlace(r)
				text := speak.Print(raw, pc)
				if text != modelPrint(raw, pc) {
					t.Errorf("rule 4: Print(%#x, %#x) = %q", raw, pc, text)
				}
				if in, e := speak.Parse(text, pc); in.Raw != raw || e != api.OK {
					t.Errorf("rule 4: Parse(%q, %#x) = %+v, %d", text, pc, in, e)
				}
				name := speak.Csr(int(raw % 4096))
				if n, is := speak.CsrOf(name); n != int(raw%4096) || !is || strings.TrimSpace(name) != name {
					t.Errorf("rule 4: CsrOf(%q) = %d, %v", name, n, is)
				}
			}
		})
	}
	wait.Wait()
}
