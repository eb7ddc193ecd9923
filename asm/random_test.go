package asm_test

import (
	"math/rand/v2"
	"strconv"
	"strings"
	"testing"

	"anvil/api"
	"anvil/speak"
)

// writer writes random sources: most of their lines are right, some have one thing wrong.
type writer struct {
	*rand.Rand
	wrong   int // one of so many choices is a wrong one; 0: none
	names   []string
	unmade  []string // those that no label or constant has made
	section string
}

func newWriter(seed uint64, wrong int) *writer {
	w := &writer{Rand: rand.New(rand.NewPCG(seed, 8)), wrong: wrong}
	w.names = []string{"a", "b", "größe", "_start", ".L1", "x$2", "hi", "lo", "r", "sp", "N"}
	w.unmade = append([]string(nil), w.names...)
	w.Shuffle(len(w.unmade), func(i, j int) { w.unmade[i], w.unmade[j] = w.unmade[j], w.unmade[i] })
	w.section = ".text"
	return w
}

// errs: whether the next thing is to be wrong.
func (w *writer) errs() bool { return w.wrong > 0 && w.IntN(w.wrong) == 0 }

func (w *writer) pick(list ...string) string { return list[w.IntN(len(list))] }

func (w *writer) name() string { return w.pick(w.names...) }

// fresh: a name that is not made yet; any, if it is to be wrong or there is none.
func (w *writer) fresh() string {
	if len(w.unmade) == 0 || w.errs() {
		return w.name()
	}
	name := w.unmade[0]
	w.unmade = w.unmade[1:]
	return name
}

// number: of any form and size.
func (w *writer) number() string {
	v := w.Uint64() >> w.IntN(64)
	if w.IntN(2) == 0 {
		v = uint64(w.IntN(40))
	}
	zeros := w.pick("", "", "", "0", "000")
	switch w.IntN(5) {
	case 0:
		return "0x" + zeros + strconv.FormatUint(v, 16)
	case 1:
		return "0x" + strings.ToUpper(strconv.FormatUint(v, 16))
	case 2:
		return "0b" + zeros + strconv.FormatUint(v, 2)
	}
	return zeros + strconv.FormatUint(v, 10)
}

func (w *writer) leaf() string {
	if w.errs() {
		return w.pick("", `"t"`, "%", ",", ")", "1x", "?", "0x", "zz", "3b", "3f", "1 2", "(", "'", "<", "18446744073709551616", "#", "'ab'", "\xff", ":", "1 / 0", "(2 % 0)", "5 / (a - a)")
	}
	switch w.IntN(9) {
	case 0, 1:
		return w.number()
	case 2:
		return w.pick("0", "1", "64", "63")
	case 3, 4:
		return w.name()
	case 5:
		return "."
	case 6:
		return w.pick("0b", "1b", "1f", "2f", "2b", "01b", "0f")
	}
	return w.pick("'A'", `'\n'`, `'\x7f'`, "'é'", `'"'`, `'\''`, "'#'", "'\t'")
}

// small: an expression that is worth little and uses no label.
func (w *writer) small(most int) string {
	n := w.IntN(most)
	switch w.IntN(6) {
	case 0:
		return "N0 + " + strconv.Itoa(n)
	case 1:
		return "(" + strconv.Itoa(n+3) + " - 3)"
	case 2:
		return "'\\x" + strconv.FormatUint(uint64(n%200+16), 16) + "' % " + strconv.Itoa(most)
	}
	return strconv.Itoa(n)
}

func (w *writer) expr(deep int) string {
	switch k := w.IntN(8); {
	case k < 3 || deep == 0:
		return w.leaf()
	case k == 3:
		return w.pick("-", "+", "~", "- ", "~-") + w.expr(deep-1)
	case k == 4:
		return "(" + w.expr(deep-1) + w.pick(")", " )")
	}
	mark := w.pick("+", "-", "*", "/", "%", "&", "|", "^", "<<", ">>")
	return w.expr(deep-1) + w.pick("", " ", "\t") + mark + w.pick("", " ") + w.expr(deep-1)
}

func (w *writer) register() string {
	if w.errs() {
		return w.pick("x32", "5", "", "a0 a1", "(a0)", "A0", "a", "-a0", ".")
	}
	n := w.IntN(32)
	return w.pick(speak.Reg(n), speak.Reg(n), "x"+strconv.Itoa(n), "s0", "a1", "sp", "fp")
}

// value: an e.
func (w *writer) value() string {
	switch w.IntN(8) {
	case 0:
		return w.expr(2)
	case 1:
		return w.pick("%hi", "%lo", "% lo ", "%hi ", "%up") + "(" + w.expr(1) + ")" + w.pick("", "", "", "+ 1", ")", "(a0)")
	case 2:
		return "%lo(" + w.small(3000) + ")"
	case 3:
		return "-" + w.small(33)
	}
	return w.small(70)
}

// operand: one of that letter.
func (w *writer) operand(letter string) string {
	if w.errs() {
		letter = w.pick("r", "e", "t", "c", "m", "a", "f", "n", "q", "o", "v")
	}
	switch letter {
	case "r":
		return w.register()
	case "e":
		return w.value()
	case "t":
		return w.pick(".", ". + 4", ". - 2", "1b", "1f", w.name(), w.expr(2), "0x80000000")
	case "c":
		return w.pick("mstatus", "0x300", "cycle", "N0 + 5", "4095", "4096", w.expr(1))
	case "m":
		return w.pick(w.value(), "", w.small(30)+" * 4") + w.pick("(", " ( ") + w.register() + ")"
	case "a":
		return "(" + w.register() + ")"
	case "f":
		return w.pick("iorw", "r", "w", "0", "rw", "00", "q", ".", "1b")
	case "n":
		return w.name()
	case "q":
		return w.pick(`"abc"`, `""`, `"é\x80\0"`, `"a, b # c"`, `"\"'"`)
	case "o":
		return w.pick("rvc", "norvc")
	}
	if w.IntN(3) > 0 {
		return w.small(90)
	}
	return w.expr(3)
}

// statement: a head and operands.
func (w *writer) statement() string {
	head := modelOrder[w.IntN(len(modelOrder))]
	if w.IntN(4) == 0 || w.section != ".text" && !w.errs() { // the directives are few among the heads
		head = w.pick(".text", ".text", ".data", ".bss", ".equ", ".set", ".globl", ".org", ".byte", ".half", ".word", ".dword", ".ascii", ".asciz", ".zero", ".align", ".balign", ".option")
	}
	switch head {
	case ".text", ".data", ".bss":
		w.section = head
	}
	shapes := modelHeads[head]
	shape := shapes[w.IntN(len(shapes))]
	if w.errs() {
		head = w.pick("foo", "Nop", ".words", "lr.w.q", "c.", ".", "addi.w", "c.nop.aq")
	}
	var operands []string
	for i, word := range shape.words {
		if head == ".equ" && i == 0 {
			operands = append(operands, w.fresh())
			continue
		}
		operands = append(operands, w.operand(modelLetter(word)))
		for shape.many && i == len(shape.words)-1 && w.IntN(2) == 0 {
			operands = append(operands, w.operand(modelLetter(word)))
		}
	}
	if head == ".align" || head == ".p2align" {
		operands = []string{w.pick("0", "1", "2", "3", "4", "5", "6", "12", "13")}
	}
	if head == ".balign" {
		operands = []string{w.pick("1", "2", "4", "8", "64", "4096", "3", "0")}
	}
	if head == ".org" && w.IntN(8) > 0 {
		operands = []string{". + " + w.small(20)}
	}
	if w.errs() {
		operands = append(operands, w.register())
	}
	if len(operands) > 0 && w.errs() {
		operands = operands[1:]
	}
	return head + w.pick(" ", "\t") + strings.Join(operands, w.pick(", ", ",", " ,  "))
}

// line: labels, a statement, a comment.
func (w *writer) line() string {
	var b strings.Builder
	b.WriteString(w.pick("", "", " ", "\t"))
	for w.IntN(4) == 0 {
		label := w.pick("1", "2", "0", "01", "18446744073709551615")
		if w.IntN(2) == 0 {
			label = w.fresh()
		}
		if w.errs() {
			label = w.pick("0x1", "1b", ".", "'a'", "", "5 5", `"hi"`)
		}
		b.WriteString(label + w.pick(":", " :", ": "))
	}
	even := ""
	if w.IntN(5) > 0 {
		text := w.section == ".text"
		statement := w.statement()
		b.WriteString(statement)
		if text && statement[0] == '.' && w.section == ".text" && !w.errs() { // instructions behind it need an even place
			even = "\n.balign 2"
		}
	}
	b.WriteString(w.pick("", "", " ", "\r", "# note \xff", " #'") + even)
	return b.String()
}

// source: some lines; where nothing is to be wrong on purpose, ahead of them a constant and behind them the labels that were not made.
func (w *writer) source() string {
	lines := []string{".equ N0, 2"}
	if w.IntN(2) == 0 {
		lines = append(lines, ".option rvc")
	}
	for range w.IntN(8) {
		lines = append(lines, w.line())
	}
	for _, name := range w.unmade {
		if w.IntN(12) > 0 {
			lines = append(lines, name+":")
		}
	}
	lines = append(lines, "0: 1: 2:")
	return strings.Join(lines, "\n") + w.pick("", "\n")
}

// TestModelSources: whatever is written, Assemble answers what the model does: images (P8.2, P8.3) and faults (P8.1).
func TestModelSources(t *testing.T) {
	t.Parallel()
	seen := map[api.Errno]int{}
	for seed := range uint64(20000) {
		w := newWriter(seed, []int{0, 30, 90}[seed%3])
		seen[held(t, w.source())]++
	}
	for _, why := range []api.Errno{api.OK, api.ErrName, api.ErrReach, api.ErrWord, api.ErrOperand, api.ErrLine, api.ErrTwice, api.ErrNoName, api.ErrExpr, api.ErrZero, api.ErrRange, api.ErrPlace} {
		if seen[why] < 15 {
			t.Errorf("%v came %d times", why, seen[why])
		}
	}
	t.Log(seen)
}

// TestModelLines: one line alone, so that no other line's fault hides its own.
func TestModelLines(t *testing.T) {
	t.Parallel()
	seen := map[api.Errno]int{}
	for seed := range uint64(20000) {
		w := newWriter(seed, []int{0, 8, 20}[seed%3])
		ahead := w.pick("", ".option rvc\n", "1: .half 0\n", ".data\n1: .byte 0\n", ".bss\n", ".byte 1\n")
		if ahead[:min(2, len(ahead))] == ".d" || ahead == ".bss\n" {
			w.section = ".data"
		}
		src := ".equ N0, 2\n" + ahead + w.line() + "\n1:"
		seen[held(t, src)]++
	}
	t.Log(seen)
}

// TestModelBytes: sources with bytes changed, put in and taken out.
func TestModelBytes(t *testing.T) {
	t.Parallel()
	seen := map[api.Errno]int{}
	for seed := range uint64(10000) {
		w := newWriter(seed, 60)
		src := []byte(w.source())
		for range 1 + w.IntN(3) {
			at := w.IntN(len(src))
			one := w.pick("\n", " ", ",", "(", ")", ":", "0", "1", "a", "b", "'", `"`, `\`, "%", "-", "#", "\r", "é", "\xff", "<", ".", "$", "x")
			switch w.IntN(3) {
			case 0:
				src = append(src[:at:at], append([]byte(one), src[at:]...)...)
			case 1:
				src = append(src[:at:at], append([]byte(one), src[at+1:]...)...)
			case 2:
				src = append(src[:at:at], src[at+1:]...)
			}
			if len(src) == 0 {
				break
			}
		}
		seen[held(t, string(src))]++
	}
	t.Log(seen)
}

// TestModelValues: Value against the model.
func TestModelValues(t *testing.T) {
	t.Parallel()
	seen := map[api.Errno]int{}
	for seed := range uint64(20000) {
		w := newWriter(seed, []int{0, 10, 40}[seed%3])
		var names []api.Sym
		for range w.IntN(12) {
			names = append(names, api.Sym{Name: w.pick(w.name(), w.name(), ".", "1b", ""), Value: w.Uint64() >> w.IntN(64)})
		}
		seen[heldValue(t, w.pick("", " ")+w.expr(4)+w.pick("", " ", "#", "", "", "", "", "", " # \n", "\n"), names)]++
	}
	for _, why := range []api.Errno{api.OK, api.ErrLine, api.ErrNoName, api.ErrExpr, api.ErrZero, api.ErrRange} {
		if seen[why] < 15 {
			t.Errorf("%v came %d times", why, seen[why])
		}
	}
	t.Log(seen)
}
