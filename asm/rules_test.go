package asm_test

import (
	"math/rand/v2"
	"strings"
	"sync"
	"testing"

	"anvil/api"
	"anvil/asm"
)

// TestRule1Any: every text is answered, none by a panic, and as the model does.
func TestRule1Any(t *testing.T) {
	t.Parallel()
	r := rand.New(rand.NewPCG(81, 8))
	const some = " \t\r\n\n\n:,()+-*/%&|^~<<>>##''\"\"\\0123456789abfx._$é\xff\xc3?=nopliadcr"
	for range 20000 {
		b := make([]byte, r.IntN(60))
		for i := range b {
			b[i] = some[r.IntN(len(some))]
		}
		held(t, string(b))
		heldValue(t, string(b), []api.Sym{{Name: "a", Value: 1}})
	}
	for range 3000 {
		b := make([]byte, r.IntN(60))
		for i := range b {
			b[i] = byte(r.Uint32())
		}
		held(t, string(b))
		heldValue(t, string(b), nil)
	}
}

// TestRule1Great: the greatest sources are answered soon.
func TestRule1Great(t *testing.T) {
	t.Parallel()
	fill := func(line string) string {
		return strings.Repeat(strings.Repeat(line, 999/len(line))+"\n", 400)
	}
	made(t, fill("1:"))
	held(t, fill("a b"))
	made(t, strings.Repeat("1:", 480)+".byte 1f - 1f\n"+strings.Repeat(strings.Repeat("1:", 480)+".byte "+strings.Repeat("1f-1b,", 3)+"5\n", 300)+"1:\n")
	made(t, strings.Repeat(".word "+strings.Repeat("-", 990)+"1\n", 400))
	made(t, strings.Repeat(".option rvc\nli t0, 0x123456789abcdef0\n", 2000))
	made(t, strings.Repeat("call .\nla a0, 1f\n", 1999)+"1:")
}

// TestRule4Same: the same call answers the same, whatever runs beside it.
func TestRule4Same(t *testing.T) {
	t.Parallel()
	src := many(api.MaxLabels) + "call n1\n.option rvc\nli a0, n1\n.data\n.dword n1, n2"
	want := made(t, src)
	var all sync.WaitGroup
	for range 8 {
		all.Go(func() {
			for range 20 {
				if im, err := asm.Assemble(src); err != nil || !same(im, want) {
					t.Errorf("another image, or %v", err)
				}
				if v, err := asm.Value("a + b", []api.Sym{{Name: "a", Value: 1}, {Name: "b", Value: 2}}); v != 3 || err != nil {
					t.Error(v, err)
				}
			}
		})
	}
	all.Wait()
}
