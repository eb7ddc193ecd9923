package asm_test

import (
	"bytes"
	"encoding/binary"
	"math/big"
	"regexp"
	"slices"
	"sort"
	"strings"
	"unicode/utf8"

	"anvil/api"
	"anvil/encode"
	"anvil/speak"
)

// The model: a second assembler that follows the chapter's words and tables by other means: regexps for tokens, trees of big numbers for expressions, the tables of 8.4 to 8.6 as they stand in the chapter.

// modelRows: the table of 8.5 and that of 8.6, as they stand there; with the number of bytes per value of .byte to .dword left to the model.
const modelRows = `
lui auipc | r, e
jal | r, t
jalr lb lh lw ld lbu lhu lwu sb sh sw sd | r, m
beq bne blt bge bltu bgeu | r, r, t
addi slti sltiu xori ori andi slli srli srai addiw slliw srliw sraiw | r, r, e
add sub sll slt sltu xor srl sra or and addw subw sllw srlw sraw mul mulh mulhsu mulhu div divu rem remu mulw divw divuw remw remuw | r, r, r
fence | f, f
fence.i ecall ebreak mret wfi | none
csrrw csrrs csrrc | r, c, r
csrrwi csrrsi csrrci | r, c, e
ATOMICS lr.w lr.d | r, a
ATOMICS sc.w sc.d amoswap.w amoswap.d amoadd.w amoadd.d amoxor.w amoxor.d amoand.w amoand.d amoor.w amoor.d amomin.w amomin.d amomax.w amomax.d amominu.w amominu.d amomaxu.w amomaxu.d | r, r, a
c.addi4spn | r, r, e
c.lw c.ld c.sw c.sd c.lwsp c.ldsp c.swsp c.sdsp | r, m
c.nop | none
c.nop | e
c.addi c.addiw c.li c.andi c.addi16sp c.lui c.srli c.srai c.slli | r, e
c.sub c.xor c.or c.and c.subw c.addw c.mv c.add | r, r
c.j | t
c.beqz c.bnez | r, t
c.jr c.jalr | r
c.ebreak | none
nop | none | addi zero, zero, 0
mv | d, s | addi d, s, 0
not | d, s | xori d, s, -1
neg | d, s | sub d, zero, s
negw | d, s | subw d, zero, s
sext.w | d, s | addiw d, s, 0
seqz | d, s | sltiu d, s, 1
snez | d, s | sltu d, zero, s
sltz | d, s | slt d, s, zero
sgtz | d, s | slt d, zero, s
beqz | s, t | beq s, zero, t
bnez | s, t | bne s, zero, t
bgez | s, t | bge s, zero, t
bltz | s, t | blt s, zero, t
blez | s, t | bge zero, s, t
bgtz | s, t | blt zero, s, t
bgt | s, s2, t | blt s2, s, t
ble | s, s2, t | bge s2, s, t
bgtu | s, s2, t | bltu s2, s, t
bleu | s, s2, t | bgeu s2, s, t
j | t | jal zero, t
jal | t | jal ra, t
jr | s | jalr zero, 0(s)
jalr | s | jalr ra, 0(s)
ret | none | jalr zero, 0(ra)
call | t | auipc ra, hi; jalr ra, lo(ra)
tail | t | auipc t1, hi; jalr zero, lo(t1)
la lla | d, t | auipc d, hi; addi d, d, lo
li | d, v | row
csrr | d, c | csrrs d, c, zero
csrw | c, s | csrrw zero, c, s
csrs | c, s | csrrs zero, c, s
csrc | c, s | csrrc zero, c, s
csrwi | c, x | csrrwi zero, c, x
csrsi | c, x | csrrsi zero, c, x
csrci | c, x | csrrci zero, c, x
rdcycle | d | csrrs d, cycle, zero
rdtime | d | csrrs d, time, zero
rdinstret | d | csrrs d, instret, zero
fence | none | fence iorw, iorw
.text .data .bss | none
.equ .set | n, v
.globl .global | n ..
.org | v
.byte .half .word .dword | v ..
.ascii .asciz .string | q ..
.zero .space .skip | v
.align .p2align | v
.balign | v
.option | o
`

// modelShape: one row for one head.
type modelShape struct {
	words  []string // the operands' letters, as the row has them
	many   bool
	stands string
}

// modelHeads: the rows by their heads, and the heads in the tables' order.
var modelHeads, modelOrder = func() (map[string][]modelShape, []string) {
	heads := map[string][]modelShape{}
	var order []string
	for _, row := range strings.Split(strings.TrimSpace(modelRows), "\n") {
		cells := strings.Split(row, " | ")
		shape := modelShape{}
		if strings.HasSuffix(cells[1], " ..") {
			shape.many = true
			cells[1] = strings.TrimSuffix(cells[1], " ..")
		}
		if cells[1] != "none" {
			shape.words = strings.Split(cells[1], ", ")
		}
		if len(cells) > 2 {
			shape.stands = cells[2]
		}
		names := strings.Fields(cells[0])
		endings := []string{""}
		if names[0] == "ATOMICS" {
			names, endings = names[1:], []string{"", ".aq", ".rl", ".aqrl"}
		}
		for _, name := range names {
			for _, ending := range endings {
				if heads[name+ending] == nil {
					order = append(order, name+ending)
				}
				heads[name+ending] = append(heads[name+ending], shape)
			}
		}
	}
	return heads, order
}()

// modelLetter: d, s, s2 and x of the pseudo instructions' rows are registers and an expression.
func modelLetter(word string) string {
	switch word {
	case "d", "s", "s2":
		return "r"
	case "x":
		return "e"
	}
	return word
}

type modelToken struct {
	kind    string // name, number, reference, character, text, mark
	at, end int
	text    string
	value   uint64
	bytes   []byte
}

var (
	modelName    = regexp.MustCompile(`^[\pL_.][\pL0-9_.$]*`)
	modelNumber  = regexp.MustCompile(`^[0-9][0-9a-zA-Z]*`)
	modelForms   = regexp.MustCompile(`^(?:([0-9]+)|0x([0-9a-fA-F]+)|0b([01]+)|([0-9]+)[bf])$`)
	modelItem    = `(?:\\[ntr0\\'"]|\\x[0-9a-fA-F]{2}|[^\\\nQ])`
	modelChar    = regexp.MustCompile(`^'` + strings.Replace(modelItem, "Q", "'", 1) + `'`)
	modelText    = regexp.MustCompile(`^"` + strings.Replace(modelItem, "Q", `"`, 1) + `*"`)
	modelOneItem = regexp.MustCompile(`\\x[0-9a-fA-F]{2}|\\.|(?s:.)`)
	modelMark    = regexp.MustCompile(`^(?:<<|>>|[(),:+*/%&|^~-])`)
	modelLine    = regexp.MustCompile(`[^\n]*\n|[^\n]+$`)
	modelDigits  = regexp.MustCompile(`^[0-9]+$`)
	modelPlace   = regexp.MustCompile(`\b(?:s2|[dsctx])\b`)
	modelBlank   = regexp.MustCompile(`^(?:[ \t\r]+|#(?s:.*))`)
)

// give: the model tells a fault by panic.
func give(at int, why api.Errno) { panic(&api.Fault{At: at, Why: why}) }

// modelTokens cuts a line.
func modelTokens(line string) []modelToken {
	if len(line) > api.MaxLine {
		give(api.MaxLine, api.ErrLine)
	}
	var out []modelToken
	for at := 0; at < len(line); {
		rest := line[at:]
		if blank := modelBlank.FindString(rest); blank != "" {
			at += len(blank)
			continue
		}
		t := modelToken{at: at}
		switch {
		case modelName.MatchString(rest):
			t.kind, t.text = "name", modelName.FindString(rest)
			if len([]rune(t.text)) > api.MaxName {
				give(at, api.ErrName)
			}
		case modelNumber.MatchString(rest):
			t.kind, t.text = "number", modelNumber.FindString(rest)
			t.value = modelNumberValue(&t)
		case modelChar.MatchString(rest):
			t.kind, t.text = "character", modelChar.FindString(rest)
			modelItems(&t)
		case modelText.MatchString(rest):
			t.kind, t.text = "text", modelText.FindString(rest)
			modelItems(&t)
		case modelMark.MatchString(rest):
			t.kind, t.text = "mark", modelMark.FindString(rest)
		default:
			give(at, api.ErrLine)
		}
		at += len(t.text)
		t.end = at
		out = append(out, t)
	}
	return out
}

func modelNumberValue(t *modelToken) uint64 {
	m := modelForms.FindStringSubmatch(t.text)
	if m == nil {
		give(t.at, api.ErrExpr)
	}
	v := new(big.Int)
	for i, base := range []int{10, 16, 2, 10} {
		if m[i+1] != "" {
			v.SetString(m[i+1], base)
		}
	}
	if m[4] != "" {
		t.kind = "reference"
	}
	if !v.IsUint64() {
		give(t.at, api.ErrRange)
	}
	return v.Uint64()
}

// modelItems works out what stands between the quotes.
func modelItems(t *modelToken) {
	if !utf8.ValidString(t.text) {
		give(t.at, api.ErrLine)
	}
	escapes := map[string]byte{`\n`: 10, `\t`: 9, `\r`: 13, `\0`: 0, `\\`: '\\', `\'`: '\'', `\"`: '"'}
	for _, one := range modelOneItem.FindAllString(t.text[1:len(t.text)-1], -1) {
		if b, is := escapes[one]; is {
			t.bytes, t.value = append(t.bytes, b), uint64(b)
		} else if len(one) == 4 && one[0] == '\\' {
			b := byte(new(big.Int).SetBytes(unhex(one[2:])).Uint64())
			t.bytes, t.value = append(t.bytes, b), uint64(b)
		} else {
			t.bytes, t.value = append(t.bytes, one...), uint64([]rune(one)[0])
		}
	}
}

func unhex(two string) []byte {
	n, _ := new(big.Int).SetString(two, 16)
	return n.Bytes()
}

// modelTree: an expression. A leaf has a token that is no mark; a sign has right alone.
type modelTree struct {
	token       modelToken
	left, right *modelTree
}

// modelReader reads trees; at is the next token, end the first that is not the operand's.
type modelReader struct {
	tokens  []modelToken
	at, end int
	deep    int
}

func (r *modelReader) next(texts ...string) bool {
	return r.at < r.end && r.tokens[r.at].kind == "mark" && slices.Contains(texts, r.tokens[r.at].text)
}

func (r *modelReader) stuck() {
	switch {
	case r.at < len(r.tokens):
		give(r.tokens[r.at].at, api.ErrExpr)
	case len(r.tokens) > 0:
		give(r.tokens[len(r.tokens)-1].end, api.ErrExpr)
	}
	give(0, api.ErrExpr)
}

func (r *modelReader) level(n int) *modelTree {
	levels := [][]string{{"|"}, {"^"}, {"&"}, {"<<", ">>"}, {"+", "-"}, {"*", "/", "%"}}
	if n == len(levels) {
		return r.sign()
	}
	t := r.level(n + 1)
	for r.next(levels[n]...) {
		mark := r.tokens[r.at]
		r.at++
		t = &modelTree{mark, t, r.level(n + 1)}
	}
	return t
}

func (r *modelReader) sign() *modelTree {
	if r.next("-", "+", "~") {
		mark := r.tokens[r.at]
		r.at++
		return &modelTree{mark, nil, r.sign()}
	}
	if r.next("(") {
		if r.deep++; r.deep > api.MaxDeep {
			give(r.tokens[r.at].at, api.ErrDeep)
		}
		r.at++
		t := r.level(0)
		if !r.next(")") {
			r.stuck()
		}
		r.at++
		r.deep--
		return t
	}
	if r.at >= r.end || r.tokens[r.at].kind == "mark" || r.tokens[r.at].kind == "text" {
		r.stuck()
	}
	r.at++
	return &modelTree{token: r.tokens[r.at-1]}
}

// modelExpr reads tokens from at to end as one expression.
func modelExpr(tokens []modelToken, at, end int) *modelTree {
	r := &modelReader{tokens: tokens, at: at, end: end}
	t := r.level(0)
	if r.at != end {
		r.stuck()
	}
	return t
}

// worth: a tree's value; find answers nil for what has none.
func (t *modelTree) worth(find func(modelToken) *big.Int) *big.Int {
	if t.right == nil {
		if t.token.kind == "number" || t.token.kind == "character" {
			return new(big.Int).SetUint64(t.token.value)
		}
		v := find(t.token)
		if v == nil {
			give(t.token.at, api.ErrNoName)
		}
		return new(big.Int).Set(v)
	}
	a := new(big.Int)
	if t.left != nil {
		a = t.left.worth(find)
	}
	b := t.right.worth(find)
	if t.left == nil && t.token.text == "~" {
		return a.Sub(a.Sub(two64, big.NewInt(1)), b)
	}
	switch t.token.text {
	case "+":
		a.Add(a, b)
	case "-":
		a.Sub(a, b)
	case "*":
		a.Mul(a, b)
	case "&":
		a.And(a, b)
	case "|":
		a.Or(a, b)
	case "^":
		a.Xor(a, b)
	case "<<", ">>":
		if b.Cmp(big.NewInt(64)) >= 0 {
			return new(big.Int)
		}
		if t.token.text == "<<" {
			a.Lsh(a, uint(b.Uint64()))
		} else {
			a.Rsh(a, uint(b.Uint64()))
		}
	case "/", "%":
		if b.Sign() == 0 {
			give(t.token.at, api.ErrZero)
		}
		if t.token.text == "/" {
			a.Div(a, b)
		} else {
			a.Mod(a, b)
		}
	}
	return a.Mod(a, two64)
}

var two64 = new(big.Int).Lsh(big.NewInt(1), 64)

// signed: the same 64 bits with a sign.
func signed(v *big.Int) *big.Int {
	if v.Bit(63) == 1 {
		return new(big.Int).Sub(v, two64)
	}
	return new(big.Int).Set(v)
}

// leaves: the tokens that are asked for.
func (t *modelTree) leaves() []modelToken {
	if t == nil {
		return nil
	}
	if t.right == nil {
		return []modelToken{t.token}
	}
	return append(t.left.leaves(), t.right.leaves()...)
}

// modelValue is Value.
func modelValue(expr string, names []api.Sym) (v uint64, f *api.Fault) {
	defer func() {
		if x := recover(); x != nil {
			v, f = 0, x.(*api.Fault)
		}
	}()
	tokens := modelTokens(expr)
	t := modelExpr(tokens, 0, len(tokens))
	return t.worth(func(tok modelToken) *big.Int {
		for _, n := range names {
			if tok.kind == "name" && tok.text != "." && n.Name == tok.text {
				return new(big.Int).SetUint64(n.Value)
			}
		}
		return nil
	}).Uint64(), nil
}

// modelOperand: one operand, read.
type modelOperand struct {
	word  string // its letter, as the row has it
	first modelToken
	plain string // what stands there, if it is no expression
	bytes []byte
	part  string // %hi, %lo
	base  string
	tree  *modelTree
}

// modelStatement: what is kept of a line between the walks.
type modelStatement struct {
	line     int
	head     modelToken
	shape    modelShape
	operands []modelOperand
	section  string
	offset   int
	size     int
	short    bool
	seen     int // local labels ahead of it
}

type modelSymbol struct {
	section string // "" of a constant
	value   uint64
	number  uint64 // of a local label
}

type modelProgram struct {
	names   map[string]modelSymbol
	locals  []modelSymbol
	bytes   map[string][]byte
	align   map[string]int
	base    map[string]uint64
	section string
	rvc     bool
	all     []*modelStatement
}

// modelAssemble is Assemble.
func modelAssemble(src string) (im api.Image, f *api.Fault) {
	line := 0
	defer func() {
		if x := recover(); x != nil {
			f = x.(*api.Fault)
			f.Line, im = line, api.Image{}
		}
	}()
	if len(src) > api.MaxText {
		give(0, api.ErrText)
	}
	lines := modelLine.FindAllString(src, -1)
	if len(lines) > api.MaxLines {
		give(0, api.ErrMany)
	}
	p := &modelProgram{names: map[string]modelSymbol{}, bytes: map[string][]byte{}, section: ".text",
		align: map[string]int{".text": 1, ".data": 16, ".bss": 16}, base: map[string]uint64{".text": api.RamBase}}
	for _, text := range lines {
		line++
		p.line(strings.TrimSuffix(text, "\n"), line)
	}
	line++
	at := uint64(api.RamBase)
	for _, s := range []string{".text", ".data", ".bss"} {
		for at%uint64(p.align[s]) != 0 {
			at++
		}
		p.base[s] = at
		at += uint64(len(p.bytes[s]))
	}
	if at > api.RamBase+api.MaxRam {
		give(0, api.ErrRange)
	}
	for _, s := range p.all {
		line = s.line
		p.second(s)
	}
	return p.image(), nil
}

func (p *modelProgram) image() api.Image {
	im := api.Image{Entry: api.RamBase}
	for name, s := range p.names {
		im.Syms = append(im.Syms, api.Sym{Name: name, Value: p.base[s.section] + s.value})
		if name == "_start" && s.section == ".text" {
			im.Entry = (api.RamBase + s.value) / 2 * 2
		}
	}
	sort.Slice(im.Syms, func(i, j int) bool {
		a, b := im.Syms[i], im.Syms[j]
		return a.Value < b.Value || a.Value == b.Value && a.Name < b.Name
	})
	for _, s := range []string{".text", ".data", ".bss"} {
		if n := len(p.bytes[s]); n > 0 {
			seg := api.Seg{Addr: p.base[s], Size: uint64(n), Flags: api.R + api.W, Data: p.bytes[s]}
			if s == ".text" {
				seg.Flags = api.R + api.X
			}
			if s == ".bss" {
				seg.Data = nil
			}
			im.Segs = append(im.Segs, seg)
		}
	}
	return im
}

var (
	modelData  = regexp.MustCompile(`^\.(byte|half|word|dword)$`)
	modelTexts = regexp.MustCompile(`^\.(ascii|asciz|string)$`)
	modelSizes = map[string]int{".byte": 1, ".half": 2, ".word": 4, ".dword": 8}
)

// line is the first walk's turn.
func (p *modelProgram) line(text string, number int) {
	tokens := modelTokens(text)
	isMark := func(i int, m string) bool { return i < len(tokens) && tokens[i].kind == "mark" && tokens[i].text == m }
	at := 0
	for isMark(at+1, ":") {
		t := tokens[at]
		if t.text == "." && t.kind == "name" {
			give(t.at, api.ErrName)
		}
		if t.kind != "name" && !(t.kind == "number" && modelDigits.MatchString(t.text)) {
			give(t.at, api.ErrLine)
		}
		at += 2
	}
	if at < len(tokens) && tokens[at].kind != "name" {
		give(tokens[at].at, api.ErrLine)
	}
	here := modelSymbol{section: p.section, value: uint64(len(p.bytes[p.section]))}
	for i := 0; i < at; i += 2 {
		if tokens[i].kind == "number" {
			here.number = tokens[i].value
			p.locals = append(p.locals, here)
		} else {
			p.mayMake(tokens[i])
			p.names[tokens[i].text] = here
		}
	}
	if at == len(tokens) {
		return
	}
	s := &modelStatement{line: number, head: tokens[at], section: p.section, offset: len(p.bytes[p.section]), seen: len(p.locals)}
	p.read(s, tokens, at)
	p.first(s)
	if len(p.bytes[s.section]) > api.MaxRam {
		give(s.head.at, api.ErrRange)
	}
	p.all = append(p.all, s)
}

func (p *modelProgram) mayMake(t modelToken) {
	if _, is := p.names[t.text]; is {
		give(t.at, api.ErrTwice)
	}
	if len(p.names) >= api.MaxLabels {
		give(t.at, api.ErrMany)
	}
}

// read finds the statement's shape and its operands.
func (p *modelProgram) read(s *modelStatement, tokens []modelToken, at int) {
	head := s.head.text
	shapes := modelHeads[head]
	if shapes == nil {
		give(s.head.at, api.ErrWord)
	}
	instruction := shapes[0].stands != "" || head[0] != '.'
	switch {
	case instruction && (p.section != ".text" || s.offset%2 == 1),
		head == ".org" && p.section != ".text",
		(modelData.MatchString(head) || modelTexts.MatchString(head)) && p.section == ".bss":
		give(s.head.at, api.ErrPlace)
	}
	var ends []int // where operands end
	deep := 0
	for i := at + 1; i < len(tokens); i++ {
		if tokens[i].kind == "mark" {
			switch tokens[i].text {
			case "(":
				deep++
			case ")":
				if deep > 0 {
					deep--
				}
			case ",":
				if deep == 0 {
					ends = append(ends, i)
				}
			}
		}
	}
	if at+1 < len(tokens) {
		ends = append(ends, len(tokens))
	}
	found := false
	for _, shape := range shapes {
		if len(shape.words) == len(ends) || shape.many && len(ends) > 0 {
			s.shape, found = shape, true
		}
	}
	if !found {
		give(s.head.at, api.ErrOperand)
	}
	from := at + 1
	for i, end := range ends {
		word := s.shape.words[min(i, len(s.shape.words)-1)]
		s.operands = append(s.operands, p.operand(s, word, tokens, from, end))
		from = end + 1
	}
}

// modelPatterns: what operands must look like, by their letters, their tokens written by kinds.
var modelPatterns = map[string]*regexp.Regexp{
	"r": regexp.MustCompile(`^reg $`),
	"a": regexp.MustCompile(`^\( reg \) $`),
	"f": regexp.MustCompile(`^(name|here|reg|csr|part|option|number|reference) $`),
	"n": regexp.MustCompile(`^(name|reg|csr|part|option) $`),
	"q": regexp.MustCompile(`^text $`),
	"o": regexp.MustCompile(`^option $`),
	"m": regexp.MustCompile(`\( reg \) $`),
}

// operand reads one operand.
func (p *modelProgram) operand(s *modelStatement, word string, tokens []modelToken, from, end int) modelOperand {
	var kinds strings.Builder // the operand's tokens, written as one text: a register, a name, marks as they are
	for _, t := range tokens[from:end] {
		_, isReg := speak.RegOf(t.text)
		_, isCsr := speak.CsrOf(t.text)
		switch {
		case t.kind == "mark":
			kinds.WriteString(t.text + " ")
		case t.kind == "name" && t.text == ".":
			kinds.WriteString("here ")
		case t.kind == "name" && isReg:
			kinds.WriteString("reg ")
		case t.kind == "name" && isCsr:
			kinds.WriteString("csr ")
		case t.kind == "name" && (t.text == "hi" || t.text == "lo"):
			kinds.WriteString("part ")
		case t.kind == "name" && (t.text == "rvc" || t.text == "norvc"):
			kinds.WriteString("option ")
		default:
			kinds.WriteString(t.kind + " ")
		}
	}
	o := modelOperand{word: word}
	if from < end {
		o.first = tokens[from]
	}
	must := func(letter string) {
		if !modelPatterns[letter].MatchString(kinds.String()) {
			give(s.head.at, api.ErrOperand)
		}
	}
	letter := modelLetter(word)
	switch letter {
	case "r":
		must("r")
		o.plain = o.first.text
	case "a":
		must("a")
		o.plain = "(" + tokens[from+1].text + ")"
	case "f":
		must("f")
		o.plain = o.first.text
	case "n":
		must("n")
		o.plain = o.first.text
	case "q":
		must("q")
		o.bytes = o.first.bytes
	case "o":
		must("o")
		o.plain = o.first.text
	case "m":
		must("m")
		o.base = tokens[end-2].text
		if end -= 3; end == from {
			return o
		}
		fallthrough
	case "e":
		if o.first.kind == "mark" && o.first.text == "%" {
			rest := kinds.String()
			if letter == "m" {
				rest = strings.TrimSuffix(rest, "( reg ) ")
			}
			if !strings.HasPrefix(rest, "% part ( ") || !modelHeld(strings.Fields(rest)[2:]) {
				give(s.head.at, api.ErrOperand)
			}
			o.part = tokens[from+1].text
			from, end = from+3, end-1
		}
		o.tree = modelExpr(tokens, from, end)
	case "c":
		if kinds.String() == "csr " {
			o.plain = o.first.text
			return o
		}
		o.tree = modelExpr(tokens, from, end)
	default:
		o.tree = modelExpr(tokens, from, end)
	}
	return o
}

// modelHeld: brackets that hold everything: without its first and last mark the rest never closes more than it opens, and all are closed.
func modelHeld(marks []string) bool {
	if len(marks) < 2 || marks[0] != "(" || marks[len(marks)-1] != ")" {
		return false
	}
	deep := 0
	for _, m := range marks[1 : len(marks)-1] {
		if m == "(" {
			deep++
		}
		if m == ")" {
			deep--
		}
		if deep < 0 {
			return false
		}
	}
	return deep == 0
}

// value: an operand's expression.
func (o modelOperand) value(find func(modelToken) *big.Int) uint64 {
	if o.tree == nil {
		return 0
	}
	v := o.tree.worth(find)
	switch o.part {
	case "hi":
		return modelHi(v)
	case "lo":
		return modelLo(v)
	}
	return v.Uint64()
}

func modelHi(v *big.Int) uint64 {
	x := new(big.Int).Add(v, big.NewInt(0x800))
	x.Mod(x, two64)
	return x.Rsh(x, 12).Uint64() & 0xfffff
}

func modelLo(v *big.Int) uint64 {
	x := new(big.Int).And(v, big.NewInt(0xfff))
	if x.Bit(11) == 1 {
		x.Sub(x, big.NewInt(0x1000))
	}
	return x.Mod(x, two64).Uint64()
}

// early: the value of the last operand, of what is known now.
func (p *modelProgram) early(s *modelStatement) uint64 {
	return s.operands[len(s.operands)-1].value(func(t modelToken) *big.Int {
		known := func(y modelSymbol, is bool) *big.Int {
			if !is || y.section != "" && y.section != ".text" {
				return nil
			}
			return new(big.Int).SetUint64(p.base[y.section] + y.value)
		}
		switch {
		case t.kind == "reference" && strings.HasSuffix(t.text, "b"):
			for i := len(p.locals) - 1; i >= 0; i-- {
				if p.locals[i].number == t.value {
					return known(p.locals[i], true)
				}
			}
			return nil
		case t.kind == "reference":
			return nil
		case t.text == ".":
			return known(modelSymbol{section: s.section, value: uint64(s.offset)}, true)
		}
		y, is := p.names[t.text]
		return known(y, is)
	})
}

// late: what everything is worth in the second walk.
func (p *modelProgram) late(s *modelStatement) func(modelToken) *big.Int {
	return func(t modelToken) *big.Int {
		at := func(y modelSymbol) *big.Int { return new(big.Int).SetUint64(p.base[y.section] + y.value) }
		switch {
		case t.kind == "reference" && strings.HasSuffix(t.text, "b"):
			for i := s.seen - 1; i >= 0; i-- {
				if p.locals[i].number == t.value {
					return at(p.locals[i])
				}
			}
			return nil
		case t.kind == "reference":
			for i := s.seen; i < len(p.locals); i++ {
				if p.locals[i].number == t.value {
					return at(p.locals[i])
				}
			}
			return nil
		case t.text == ".":
			return at(modelSymbol{section: s.section, value: uint64(s.offset)})
		}
		if y, is := p.names[t.text]; is {
			return at(y)
		}
		return nil
	}
}

// put lays bytes behind the section's.
func (p *modelProgram) put(s *modelStatement, b []byte) {
	p.bytes[s.section] = append(p.bytes[s.section], b...)
	s.size = len(b)
}

// first is the first walk's part of a statement that is read.
func (p *modelProgram) first(s *modelStatement) {
	head := s.head.text
	switch {
	case head == ".text" || head == ".data" || head == ".bss":
		p.section = head
	case head == ".equ" || head == ".set":
		p.mayMake(s.operands[0].first)
		p.names[s.operands[0].plain] = modelSymbol{value: p.early(s)}
	case head == ".globl" || head == ".global":
	case head == ".option":
		p.rvc = s.operands[0].plain == "rvc"
	case head == ".org":
		to := p.early(s)
		if from := api.RamBase + uint64(s.offset); to < from || to > api.RamBase+api.MaxRam {
			give(s.head.at, api.ErrPlace)
		} else {
			p.put(s, make([]byte, to-from))
		}
	case modelData.MatchString(head):
		p.put(s, make([]byte, modelSizes[head]*len(s.operands)))
	case modelTexts.MatchString(head):
		var b []byte
		for _, o := range s.operands {
			b = append(b, o.bytes...)
			if head != ".ascii" {
				b = append(b, 0)
			}
		}
		p.put(s, b)
	case head == ".zero" || head == ".space" || head == ".skip":
		n := p.early(s)
		if n > api.MaxRam {
			give(s.head.at, api.ErrRange)
		}
		p.put(s, make([]byte, n))
	case strings.HasSuffix(head, "align"):
		p.alignTo(s, p.early(s))
	default:
		p.reserve(s)
	}
}

func (p *modelProgram) alignTo(s *modelStatement, n uint64) {
	fine := map[uint64]int{1: 1, 2: 2, 4: 4, 8: 8, 16: 16, 32: 32, 64: 64, 128: 128, 256: 256, 512: 512, 1024: 1024, 2048: 2048, 4096: 4096}
	if s.head.text != ".balign" {
		fine = map[uint64]int{0: 1, 1: 2, 2: 4, 3: 8, 4: 16, 5: 32, 6: 64, 7: 128, 8: 256, 9: 512, 10: 1024, 11: 2048, 12: 4096}
	}
	to, is := fine[n]
	if !is {
		give(s.head.at, api.ErrRange)
	}
	p.align[s.section] = max(p.align[s.section], to)
	for len(p.bytes[s.section])%to != 0 {
		p.bytes[s.section] = append(p.bytes[s.section], 0)
	}
}

// modelRow is the row of v: the texts of its instructions.
func modelRow(d string, v *big.Int) []string {
	within := func(lo, hi int64) bool { return v.Cmp(big.NewInt(lo)) >= 0 && v.Cmp(big.NewInt(hi)) <= 0 }
	plain := new(big.Int).Mod(v, two64)
	lo := signed(new(big.Int).SetUint64(modelLo(plain)))
	switch {
	case within(-2048, 2047):
		return []string{"addi " + d + ", zero, " + v.String()}
	case within(-1<<31, 1<<31-1):
		row := []string{"lui " + d + ", " + new(big.Int).SetUint64(modelHi(plain)).String()}
		if lo.Sign() != 0 {
			row = append(row, "addiw "+d+", "+d+", "+lo.String())
		}
		return row
	}
	h := new(big.Int).Sub(v, lo)
	h = signed(h.Mod(h, two64))
	h.Quo(h, big.NewInt(4096))
	k := int64(12)
	for h.Bit(0) == 0 {
		h.Quo(h, big.NewInt(2))
		k++
	}
	row := append(modelRow(d, h), "slli "+d+", "+d+", "+big.NewInt(k).String())
	if lo.Sign() != 0 {
		row = append(row, "addi "+d+", "+d+", "+lo.String())
	}
	return row
}

// modelCode: texts as chapter 7 reads them, each short where it can be, if that is asked for.
func modelCode(s *modelStatement, pc uint64, short bool, texts ...string) []byte {
	var b bytes.Buffer
	for _, text := range texts {
		in, why := speak.Parse(text, pc+uint64(b.Len()))
		if why != api.OK {
			give(s.head.at, why)
		}
		parcel, is := encode.Compress(in)
		switch {
		case short && is:
			binary.Write(&b, binary.LittleEndian, parcel)
		case in.Len == 2:
			binary.Write(&b, binary.LittleEndian, uint16(in.Raw))
		default:
			binary.Write(&b, binary.LittleEndian, in.Raw)
		}
	}
	return b.Bytes()
}

// reserve gives an instruction its room.
func (p *modelProgram) reserve(s *modelStatement) {
	switch {
	case s.head.text == "li":
		v := signed(new(big.Int).SetUint64(p.early(s)))
		p.put(s, modelCode(s, 0, p.rvc, modelRow(s.operands[0].plain, v)...))
	case strings.Contains(s.shape.stands, ";"):
		p.put(s, make([]byte, 8))
	case strings.HasPrefix(s.head.text, "c."):
		p.put(s, make([]byte, 2))
	default:
		s.short = p.rvc && p.mayBeShort(s)
		p.put(s, make([]byte, 4))
		if s.short {
			p.bytes[s.section] = p.bytes[s.section][:s.offset+2]
			s.size = 2
		}
	}
}

// mayBeShort: no target, expressions of numbers, characters and constants made ahead, no fault, and a short form.
func (p *modelProgram) mayBeShort(s *modelStatement) (is bool) {
	for _, o := range s.operands {
		if modelLetter(o.word) == "t" {
			return false
		}
		for _, leaf := range o.tree.leaves() {
			y, made := p.names[leaf.text]
			if leaf.kind == "reference" || leaf.kind == "name" && (!made || y.section != "") {
				return false
			}
		}
	}
	defer func() {
		if recover() != nil {
			is = false
		}
	}()
	return len(modelCode(s, api.RamBase+uint64(s.offset), true, p.written(s))) == 2
}

// written: the instruction's text, its operands worked out.
func (p *modelProgram) written(s *modelStatement) string {
	var parts []string
	for _, o := range s.operands {
		text := o.plain
		if text == "" {
			text = new(big.Int).SetUint64(o.value(p.late(s))).String()
		}
		if o.base != "" {
			text += "(" + o.base + ")"
		}
		parts = append(parts, text)
	}
	if s.shape.stands == "" {
		return s.head.text + " " + strings.Join(parts, ", ")
	}
	return modelFilled(s, s.shape.stands, parts)
}

// modelFilled puts operands where a row has their letters.
func modelFilled(s *modelStatement, row string, parts []string) string {
	return modelPlace.ReplaceAllStringFunc(row, func(word string) string {
		if i := slices.Index(s.shape.words, word); i >= 0 {
			return parts[i]
		}
		return word
	})
}

// second is the second walk's turn.
func (p *modelProgram) second(s *modelStatement) {
	head, to := s.head.text, p.bytes[s.section][s.offset:]
	switch {
	case head == ".globl" || head == ".global":
		for _, o := range s.operands {
			if _, is := p.names[o.plain]; !is {
				give(o.first.at, api.ErrNoName)
			}
		}
	case modelData.MatchString(head):
		size := modelSizes[head]
		for i, o := range s.operands {
			v := new(big.Int).SetUint64(o.value(p.late(s)))
			top := new(big.Int).Lsh(big.NewInt(1), uint(8*size))
			low := new(big.Int).Neg(new(big.Int).Rsh(top, 1))
			if v.Cmp(top) >= 0 && (signed(v).Sign() >= 0 || signed(v).Cmp(low) < 0) {
				give(o.first.at, api.ErrRange)
			}
			raw := make([]byte, 8)
			binary.LittleEndian.PutUint64(raw, v.Uint64())
			copy(to[i*size:], raw[:size])
		}
	case head[0] == '.' || head == "li": // all is done
	case strings.Contains(s.shape.stands, ";"):
		pc := p.base[s.section] + uint64(s.offset)
		y := new(big.Int).SetUint64(s.operands[len(s.operands)-1].value(p.late(s)))
		y.Mod(y.Sub(y, new(big.Int).SetUint64(pc)), two64)
		if v := signed(y); v.Cmp(big.NewInt(-1<<31-1<<11)) < 0 || v.Cmp(big.NewInt(1<<31-1<<11-1)) > 0 {
			give(s.head.at, api.ErrReach)
		}
		hi, lo := new(big.Int).SetUint64(modelHi(y)).String(), new(big.Int).SetUint64(modelLo(y)).String()
		row := strings.NewReplacer(" hi", " "+hi, " lo", " "+lo).Replace(s.shape.stands)
		row = modelFilled(s, row, []string{s.operands[0].plain, "?"})
		copy(to, modelCode(s, pc, false, strings.Split(row, "; ")...))
	default:
		copy(to, modelCode(s, p.base[s.section]+uint64(s.offset), s.short, p.written(s)))
	}
}
