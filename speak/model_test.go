package speak_test

import (
	"fmt"
	"math/big"
	"regexp"
	"strconv"
	"strings"

	"anvil/api"
)

func itoa(n int) string { return strconv.Itoa(n) }

// slot is what one bit of an instruction is: of a field a bit, or itself.
type slot struct {
	field string
	bit   int
}

// drawn is a row with its bits one by one, from the highest on.
type drawn struct {
	row
	slots   []slot
	words   []string // the operands
	pattern *regexp.Regexp
}

// drawings are all rows.
var drawings = func() []drawn {
	var all []drawn
	for _, r := range rows {
		all = append(all, draw(r))
	}
	return all
}()

// byName are the rows of each name.
var byName = func() map[string][]drawn {
	all := map[string][]drawn{}
	for _, d := range drawings {
		all[d.name] = append(all[d.name], d)
	}
	return all
}()

// widths are how many bits fields have that are no numbers.
var widths = map[string]int{"rd": 5, "rs1": 5, "rs2": 5, "rd'": 3, "rs1'": 3, "rs2'": 3, "csr": 12, "five": 5, "ahead": 4, "behind": 4}

func draw(r row) drawn {
	d := drawn{row: r}
	for _, part := range strings.Fields(r.bits) {
		switch {
		case part[0] == '0' || part[0] == '1':
			for _, c := range part {
				d.slots = append(d.slots, slot{"", int(c - '0')})
			}
		case part[0] == '[':
			for _, run := range strings.Split(strings.Trim(part, "[]"), "|") {
				high, low, is := strings.Cut(run, ":")
				if !is {
					low = high
				}
				for b := number(high); b >= number(low); b-- {
					d.slots = append(d.slots, slot{"imm", b})
				}
			}
		default:
			for b := widths[part] - 1; b >= 0; b-- {
				d.slots = append(d.slots, slot{part, b})
			}
		}
	}
	if len(d.slots) != 16 && len(d.slots) != 32 {
		panic(r.name + " has " + itoa(len(d.slots)) + " bits")
	}
	if r.operands != "" {
		d.words = strings.Split(r.operands, ", ")
	}
	d.pattern = patternOf(d.words)
	return d
}

func number(text string) int {
	n, err := strconv.Atoi(text)
	if err != nil {
		panic(err)
	}
	return n
}

// length is how many bytes the row's instructions have.
func (d drawn) length() int { return len(d.slots) / 8 }

// get is a field of a raw: a register of three bits is counted from s0 on, a number has its sign if the row's numbers have one.
func (d drawn) get(raw uint32, field string) int64 {
	v, width := int64(0), 0
	for i, s := range d.slots {
		if s.field == field || s.field == field+"'" {
			v += int64(raw>>(len(d.slots)-1-i)&1) << s.bit
			width = max(width, s.bit+1)
		}
		if s.field == field+"'" && s.bit == 0 {
			v += 8
		}
	}
	if field == "imm" && d.isSigned() && v >= 1<<(width-1) {
		v -= 1 << width
	}
	return v
}

// isSigned tells whether the highest bit of the row's number is a sign. That of c.lui's twenty bits is one too.
func (d drawn) isSigned() bool {
	return len(d.reach) > 0 && d.reach[0].least < 0 || d.name == "c.lui"
}

// put is a raw with the fields.
func (d drawn) put(fields map[string]int64) uint32 {
	raw := uint32(0)
	for _, s := range d.slots {
		raw <<= 1
		switch {
		case s.field == "":
			raw += uint32(s.bit)
		case strings.HasSuffix(s.field, "'"):
			raw += uint32((fields[strings.TrimSuffix(s.field, "'")] - 8) >> s.bit & 1)
		default:
			raw += uint32(fields[s.field] >> s.bit & 1)
		}
	}
	return raw
}

// takes tells whether a raw of this length is of the row.
func (d drawn) takes(raw uint32) bool {
	for i, s := range d.slots {
		if s.field == "" && raw>>(len(d.slots)-1-i)&1 != uint32(s.bit) {
			return false
		}
	}
	for _, w := range d.words {
		if field, not, is := strings.Cut(w, "!"); is && registers[d.get(raw, field)] == not {
			return false
		}
	}
	return !d.hasNumber() || d.reaches(d.told(raw))
}

// told is a raw's number as the text has it.
func (d drawn) told(raw uint32) int64 {
	n := d.get(raw, "imm")
	if strings.Contains(d.operands, "hex") {
		n &= 0xfffff
	}
	return n
}

// hasNumber tells whether the bits of a number stand in the row's.
func (d drawn) hasNumber() bool { return strings.Contains(d.bits, "[") }

// reaches tells whether a number is one that the row can hold.
func (d drawn) reaches(n int64) bool {
	for _, s := range d.reach {
		if n >= s.least && n <= s.greatest && (n-s.least)%s.step == 0 {
			return true
		}
	}
	return false
}

// lengthOf is chapter 5's.
func lengthOf(raw uint32) int {
	if raw%4 == 3 {
		return 4
	}
	return 2
}

// rowOf is the row that a raw is told by.
func rowOf(raw uint32) (drawn, bool) {
	for _, d := range drawings {
		if d.length() == lengthOf(raw) && d.takes(raw) {
			return d, true
		}
	}
	return drawn{}, false
}

// modelPrint is P7.3.
func modelPrint(raw uint32, pc uint64) string {
	d, is := rowOf(raw)
	switch {
	case !is && raw%4 == 3:
		return fmt.Sprintf(".word 0x%08x", raw)
	case !is:
		return fmt.Sprintf(".half 0x%04x", raw%65536)
	}
	text := d.name
	for i, w := range d.words {
		text += []string{" ", ", "}[min(i, 1)] + d.tell(w, raw, pc)
	}
	return text
}

// tell is an operand's text.
func (d drawn) tell(w string, raw uint32, pc uint64) string {
	w, _, _ = strings.Cut(w, "!")
	if inner, is := strings.CutSuffix(w, ")"); is {
		first, base, _ := strings.Cut(inner, "(")
		if first != "" {
			first = d.tell(first, raw, pc)
		}
		return first + "(" + d.tell(base, raw, pc) + ")"
	}
	switch w {
	case "sp":
		return "sp"
	case "rd", "rs1", "rs2":
		return registers[d.get(raw, w)]
	case "imm":
		return fmt.Sprint(d.get(raw, "imm"))
	case "hex":
		return fmt.Sprintf("0x%x", d.told(raw))
	case "target":
		sum := new(big.Int).Add(new(big.Int).SetUint64(pc), big.NewInt(d.get(raw, "imm")))
		return "0x" + sum.Mod(sum, new(big.Int).Lsh(big.NewInt(1), 64)).Text(16)
	case "csr":
		n := int(d.get(raw, "csr"))
		if name, is := csrNames[n]; is {
			return name
		}
		return fmt.Sprintf("0x%x", n)
	case "five":
		return fmt.Sprint(d.get(raw, "five"))
	}
	text := ""
	for i, letter := range []string{"i", "o", "r", "w"} {
		if d.get(raw, w)>>(3-i)&1 == 1 {
			text += letter
		}
	}
	if text == "" {
		return "0"
	}
	return text
}

// patternOf is what the operands look like, a group a word.
func patternOf(words []string) *regexp.Regexp {
	const room, some = `[ \t]*`, `([^ \t,()]+)`
	text := ""
	for i, w := range words {
		switch {
		case i > 0:
			text += room + "," + room
		default:
			text += `[ \t]+`
		}
		switch {
		case strings.HasPrefix(w, "("):
			text += `\(` + room + some + room + `\)`
		case strings.HasSuffix(w, ")"):
			text += some + room + `\(` + room + some + room + `\)`
		default:
			text += some
		}
	}
	return regexp.MustCompile(`^` + text + room + `$`)
}

var (
	nameForm   = regexp.MustCompile(`(?s)^[ \t]*([^ \t]*)(.*)$`)
	numberForm = regexp.MustCompile(`^(-?)(?:([0-9]+)|0x([0-9a-fA-F]+))$`)
)

// modelNumber is section 7.2: the value, as 64 bits.
func modelNumber(text string) (uint64, bool) {
	m := numberForm.FindStringSubmatch(text)
	if m == nil {
		return 0, false
	}
	v := new(big.Int)
	if m[2] != "" {
		v.SetString(m[2], 10)
	} else {
		v.SetString(m[3], 16)
	}
	two64, two63 := new(big.Int).Lsh(big.NewInt(1), 64), new(big.Int).Lsh(big.NewInt(1), 63)
	if m[1] == "" {
		return v.Uint64(), v.Cmp(two64) < 0
	}
	if v.Cmp(two63) > 0 {
		return 0, false
	}
	return v.Mod(v.Neg(v), two64).Uint64(), true
}

// modelRegister is P7.1.
func modelRegister(name string) (int, bool) {
	for n, own := range registers {
		if name == own || name == "x"+itoa(n) || name == "fp" && n == 8 {
			return n, true
		}
	}
	return 0, false
}

// modelCsr is P7.2.
func modelCsr(name string) (int, bool) {
	if n, is := csrNumbers[name]; is {
		return n, true
	}
	n, is := modelNumber(name)
	if !is || name[0] == '-' || n > 4095 {
		return 0, false
	}
	return int(n), true
}

// modelParse is P7.4: the raw that a text says.
func modelParse(text string, pc uint64) (uint32, api.Errno) {
	if len(text) > 1000 {
		return 0, api.ErrLong
	}
	m := nameForm.FindStringSubmatch(text)
	name, rest := m[1], m[2]
	if name == ".word" || name == ".half" {
		return modelBits(name, rest)
	}
	if len(byName[name]) == 0 {
		return 0, api.ErrWord
	}
	for _, d := range byName[name] {
		if words := d.pattern.FindStringSubmatch(rest); words != nil {
			return d.parse(words[1:], pc)
		}
	}
	return 0, api.ErrOperand
}

// modelBits is what .word and .half say.
func modelBits(name, rest string) (uint32, api.Errno) {
	words := patternOf([]string{"imm"}).FindStringSubmatch(rest)
	if words == nil {
		return 0, api.ErrOperand
	}
	n, is := modelNumber(words[1])
	switch {
	case !is:
		return 0, api.ErrOperand
	case name == ".word" && (n > 0xffffffff || n%4 != 3):
		return 0, api.ErrReach
	case name == ".half" && (n > 0xffff || n%4 == 3):
		return 0, api.ErrReach
	}
	return uint32(n), api.OK
}

// parse is what a row says with these words.
func (d drawn) parse(words []string, pc uint64) (uint32, api.Errno) {
	fields := map[string]int64{}
	kinds := strings.Fields(strings.NewReplacer("(", " ", ")", " ", ",", " ").Replace(d.operands))
	for i, kind := range kinds {
		if !d.word(kind, words[i], pc, fields) {
			return 0, api.ErrOperand
		}
	}
	for _, kind := range kinds {
		field, not, _ := strings.Cut(kind, "!")
		small := strings.Contains(d.bits, field+"'")
		n, isRegister := fields[field]
		switch {
		case field == "sp" && n != 2:
			return 0, api.ErrOperand
		case isRegister && not != "" && registers[n] == not:
			return 0, api.ErrOperand
		case isRegister && small && (n < 8 || n > 15):
			return 0, api.ErrOperand
		}
	}
	for _, field := range []string{"imm", "five"} {
		if n, has := fields[field]; has && !d.reaches(n) {
			return 0, api.ErrReach
		}
	}
	return d.put(fields), api.OK
}

// word reads one word into the fields.
func (d drawn) word(kind, text string, pc uint64, fields map[string]int64) bool {
	kind, _, _ = strings.Cut(kind, "!")
	switch kind {
	case "rd", "rs1", "rs2", "sp":
		n, is := modelRegister(text)
		fields[kind] = int64(n)
		return is
	case "imm", "hex":
		n, is := modelNumber(text)
		fields["imm"] = int64(n)
		return is
	case "five":
		n, is := modelNumber(text)
		fields["five"] = int64(n)
		return is
	case "target":
		n, is := modelNumber(text)
		fields["imm"] = int64(n - pc)
		return is
	case "csr":
		n, is := modelCsr(text)
		fields["csr"] = int64(n)
		return is
	}
	for i, letter := range []string{"i", "o", "r", "w"} {
		fields[kind] += int64(strings.Count(text, letter)) << (3 - i)
		if strings.Count(text, letter) > 1 {
			return false
		}
	}
	return text == "0" || strings.Trim(text, "iorw") == ""
}
