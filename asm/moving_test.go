package asm_test

import (
	"errors"
	"regexp"
	"slices"
	"strings"
	"testing"

	"anvil/api"
	"anvil/asm"
)

// pieces: a line's tokens as they are written, and what is behind the last of them; only of lines without faults of tokens.
func pieces(line string) []string {
	var out []string
	for _, t := range modelTokens(line) {
		out = append(out, line[t.at:t.end])
	}
	return out
}

// renamed: a source with its names called otherwise; heads, registers and what stands for itself stay.
func renamed(src string, to map[string]string) string {
	lines := strings.SplitAfter(src, "\n")
	for i, line := range lines {
		var b strings.Builder
		last := 0
		body := strings.TrimSuffix(line, "\n")
		for _, tok := range modelUses(body) {
			b.WriteString(body[last:tok.at])
			b.WriteString(to[tok.text])
			last = tok.end
		}
		lines[i] = b.String() + line[last:]
	}
	return strings.Join(lines, "")
}

// modelUses: the tokens of a line, of a source without faults, that name labels and constants.
func modelUses(line string) []modelToken {
	tokens := modelTokens(line)
	var uses []modelToken
	at := 0
	for at+1 < len(tokens) && tokens[at+1].text == ":" && tokens[at+1].kind == "mark" {
		if tokens[at].kind == "name" {
			uses = append(uses, tokens[at])
		}
		at += 2
	}
	if at == len(tokens) {
		return uses
	}
	p := &modelProgram{section: ".text"}
	s := &modelStatement{head: tokens[at]}
	p.read(s, tokens, at)
	for _, o := range s.operands {
		if o.word == "n" {
			uses = append(uses, o.first)
		}
		for _, leaf := range o.tree.leaves() {
			if leaf.kind == "name" && leaf.text != "." {
				uses = append(uses, leaf)
			}
		}
	}
	slices.SortFunc(uses, func(a, b modelToken) int { return a.at - b.at })
	return uses
}

// TestP8_6Names: what names are called changes nothing but Syms' names and their order within a value.
func TestP8_6Names(t *testing.T) {
	t.Parallel()
	done := 0
	for seed := range uint64(12000) {
		w := newWriter(seed, 0)
		src := w.source()
		im, err := asm.Assemble(src)
		if err != nil {
			continue
		}
		done++
		others := []string{"q", "Q", "a0", "zero", "nop", ".text", "x.y", "漢字", "_", "..", "rvc", "iorw", strings.Repeat("z", api.MaxName), "hi", "lo", "b", "li", "k$", "t1"}
		w.Shuffle(len(others), func(i, j int) { others[i], others[j] = others[j], others[i] })
		to, back := map[string]string{"_start": "_start"}, map[string]string{"_start": "_start"}
		for i, name := range append([]string{"N0"}, w.names...) {
			if name != "_start" {
				to[name], back[others[i]] = others[i], name
			}
		}
		other := renamed(src, to)
		got, err := asm.Assemble(other)
		if err != nil {
			t.Fatalf("P8.6: %q: %v, of %q", other, err, src)
		}
		for i, s := range got.Syms {
			got.Syms[i].Name = back[s.Name]
		}
		slices.SortFunc(got.Syms, func(a, b api.Sym) int {
			if a.Value != b.Value {
				return map[bool]int{true: -1, false: 1}[a.Value < b.Value]
			}
			return strings.Compare(a.Name, b.Name)
		})
		if !same(got, im) {
			t.Fatalf("P8.6: %q:\n%+v, of %q:\n%+v", other, got, src, im)
		}
	}
	if done < 3000 {
		t.Errorf("only %d sources", done)
	}
}

// moved: a source with blanks, comments, "\r" and empty lines put in, and how many lines came ahead of each.
func moved(w *writer, src string) (string, []int) {
	var b strings.Builder
	var numbers []int
	number := 0
	lines := strings.Split(strings.TrimSuffix(src, "\n"), "\n")
	for _, line := range lines {
		for w.IntN(4) == 0 {
			b.WriteString(w.pick("", " ", "\t\r", "# a comment", " #\xff\"", "\r") + "\n")
			number++
		}
		number++
		numbers = append(numbers, number)
		b.WriteString(w.pick("", " ", "\t"))
		parts := pieces(line)
		for i, part := range parts {
			b.WriteString(part)
			joins := i+1 < len(parts) && wordEnd.MatchString(part) && wordBegin.MatchString(parts[i+1])
			shifts := i+1 < len(parts) && strings.Contains("<<>>", part) && strings.Contains("<<>>", parts[i+1])
			if joins || shifts {
				b.WriteString(" ")
			}
			b.WriteString(w.pick("", "", " ", "\t", "\r", "  "))
		}
		b.WriteString(w.pick("", "", " ", "\r", "\r\r", "# c", " # 'c") + "\n")
	}
	text := b.String()
	if w.IntN(2) == 0 {
		text = strings.TrimSuffix(text, "\n")
	}
	return text, numbers
}

// wordEnd, wordBegin: tokens that would be one without a blank between them.
var (
	wordEnd   = regexp.MustCompile(`[\pL0-9_.$]$`)
	wordBegin = regexp.MustCompile(`^[\pL0-9_.$]`)
)

// TestP8_7Moving: what is put in between changes nothing but the faults' places.
func TestP8_7Moving(t *testing.T) {
	t.Parallel()
	fine, faulty := 0, 0
	for seed := range uint64(12000) {
		w := newWriter(seed, 40*int(seed%2))
		src := w.source()
		if !cuttable(src) {
			continue
		}
		im, err := asm.Assemble(src)
		other, numbers := moved(w, src)
		got, gotErr := asm.Assemble(other)
		if err == nil {
			fine++
			if gotErr != nil || !same(got, im) {
				t.Fatalf("P8.7: %q:\n%+v, %v, of %q:\n%+v", other, got, gotErr, src, im)
			}
			continue
		}
		faulty++
		var a, b *api.Fault
		if !errors.As(err, &a) || !errors.As(gotErr, &b) || a.Why != b.Why {
			t.Fatalf("P8.7: %q: %v, of %q: %v", other, gotErr, src, err)
		}
		if a.Line <= len(numbers) && b.Line != numbers[a.Line-1] {
			t.Fatalf("P8.7: %q: %v, of %q: %v", other, gotErr, src, err)
		}
	}
	if fine < 2000 || faulty < 500 {
		t.Errorf("only %d and %d sources", fine, faulty)
	}
}

// cuttable tells whether all lines are cut without a fault.
func cuttable(src string) (is bool) {
	defer func() { is = recover() == nil }()
	for _, line := range strings.Split(src, "\n") {
		modelTokens(line)
	}
	return true
}

func TestP8_7Bounds(t *testing.T) {
	src := "x: addi a0, a0, x - x # c"
	want := textOf(t, src)
	gives(t, strings.ReplaceAll(src, " ", strings.Repeat(" ", 100)), want...)
	gives(t, strings.Repeat("\r\n", api.MaxLines-1)+src, want...)
	gives(t, strings.Repeat("#\n", api.MaxLines-1)+src, want...)
	gives(t, src+strings.Repeat(" ", api.MaxLine-len(src)), want...)
}
