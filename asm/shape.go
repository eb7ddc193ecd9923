package asm

import "strings"

// shape: one way to write a head's operands, a letter each, and what the two walks do with such a statement. stands is what a pseudo instruction stands for, with $0, $1, $2 for its operands; where it reaches a far target, $1 and $2 are that one's high and low part.
type shape struct {
	letters string
	many    bool // the letter may be repeated
	where   int
	stands  []string
	first   func(*program, *statement) error
	second  func(*program, *statement) error
}

// Where a statement may stand.
const (
	anywhere   = iota
	inLoaded   // not in .bss, which has no bytes
	inText     // in .text
	inEvenText // in .text, at an even address
)

// shapesOf are the shapes of a head; none: it is no head.
func shapesOf(head string) []shape {
	if s, is := directive(head); is {
		return []shape{s}
	}
	var shapes []shape
	for _, letters := range plainLetters(head) {
		shapes = append(shapes, oneInstruction(letters))
	}
	if s, is := pseudo(head); is {
		shapes = append(shapes, s)
	}
	return shapes
}

// fitting is the shape that takes so many operands.
func fitting(shapes []shape, operands int) (shape, bool) {
	for _, s := range shapes {
		if len(s.letters) == operands || s.many && operands > 0 {
			return s, true
		}
	}
	return shape{}, false
}

// letter is the letter of an operand.
func (s shape) letter(operand int) byte { return s.letters[min(operand, len(s.letters)-1)] }

// hasTarget tells whether a shape's instruction hangs on where it stands.
func (s shape) hasTarget() bool { return strings.IndexByte(s.letters, letterTarget) >= 0 }

// oneInstruction is the shape of what is one instruction: one with these operands, or what is told.
func oneInstruction(letters string, stands ...string) shape {
	return shape{letters: letters, where: inEvenText, stands: stands, first: (*program).reserveInstruction, second: (*program).makeInstruction}
}

// twoInstructions is the shape of what reaches a far target.
func twoInstructions(letters string, stands ...string) shape {
	return shape{letters: letters, where: inEvenText, stands: stands, first: (*program).reservePair, second: (*program).makePair}
}

// directive is the shape of a directive.
func directive(head string) (shape, bool) {
	switch head {
	case ".text", ".data", ".bss":
		return shape{first: (*program).changeSection}, true
	case ".equ", ".set":
		return shape{letters: "nv", first: (*program).makeConstant}, true
	case ".globl", ".global":
		return shape{letters: "n", many: true, first: (*program).wait, second: (*program).checkGlobal}, true
	case ".org":
		return shape{letters: "v", where: inText, first: (*program).moveOn}, true
	case ".byte", ".half", ".word", ".dword":
		return shape{letters: "v", many: true, where: inLoaded, first: (*program).reserveData, second: (*program).makeData}, true
	case ".ascii", ".asciz", ".string":
		return shape{letters: "s", many: true, where: inLoaded, first: (*program).makeText}, true
	case ".zero", ".space", ".skip":
		return shape{letters: "v", first: (*program).makeZeros}, true
	case ".align", ".p2align", ".balign":
		return shape{letters: "v", first: (*program).align}, true
	case ".option":
		return shape{letters: "o", first: (*program).chooseForms}, true
	}
	return shape{}, false
}

// plainLetters are the operands of an instruction that chapter 7 names, or each of the ways to write them.
func plainLetters(head string) []string {
	if letters, is := longLetters(head); is {
		return []string{letters}
	}
	if letters, is := atomicLetters(head); is {
		return []string{letters}
	}
	if head == "c.nop" {
		return []string{"", "e"}
	}
	if letters, is := shortLetters(head); is {
		return []string{letters}
	}
	return nil
}

func longLetters(head string) (string, bool) {
	switch head {
	case "lui", "auipc":
		return "re", true
	case "jal":
		return "rt", true
	case "jalr", "lb", "lh", "lw", "ld", "lbu", "lhu", "lwu", "sb", "sh", "sw", "sd":
		return "rm", true
	case "beq", "bne", "blt", "bge", "bltu", "bgeu":
		return "rrt", true
	case "addi", "slti", "sltiu", "xori", "ori", "andi", "slli", "srli", "srai", "addiw", "slliw", "srliw", "sraiw":
		return "rre", true
	case "add", "sub", "sll", "slt", "sltu", "xor", "srl", "sra", "or", "and", "addw", "subw", "sllw", "srlw", "sraw",
		"mul", "mulh", "mulhsu", "mulhu", "div", "divu", "rem", "remu", "mulw", "divw", "divuw", "remw", "remuw":
		return "rrr", true
	case "fence":
		return "ff", true
	case "fence.i", "ecall", "ebreak", "mret", "wfi":
		return "", true
	case "csrrw", "csrrs", "csrrc":
		return "rcr", true
	case "csrrwi", "csrrsi", "csrrci":
		return "rce", true
	}
	return "", false
}

// atomicLetters takes the names with each of the orders that may stand behind them.
func atomicLetters(head string) (string, bool) {
	for _, order := range [...]string{".aqrl", ".aq", ".rl"} {
		if name, is := strings.CutSuffix(head, order); is {
			head = name
			break
		}
	}
	name, isWord := strings.CutSuffix(head, ".w")
	name, isDouble := strings.CutSuffix(name, ".d")
	if isWord == isDouble {
		return "", false
	}
	switch name {
	case "lr":
		return "ra", true
	case "sc", "amoswap", "amoadd", "amoxor", "amoand", "amoor", "amomin", "amomax", "amominu", "amomaxu":
		return "rra", true
	}
	return "", false
}

func shortLetters(head string) (string, bool) {
	switch head {
	case "c.addi4spn":
		return "rre", true
	case "c.lw", "c.ld", "c.sw", "c.sd", "c.lwsp", "c.ldsp", "c.swsp", "c.sdsp":
		return "rm", true
	case "c.addi", "c.addiw", "c.li", "c.andi", "c.addi16sp", "c.lui", "c.srli", "c.srai", "c.slli":
		return "re", true
	case "c.sub", "c.xor", "c.or", "c.and", "c.subw", "c.addw", "c.mv", "c.add":
		return "rr", true
	case "c.j":
		return "t", true
	case "c.beqz", "c.bnez":
		return "rt", true
	case "c.jr", "c.jalr":
		return "r", true
	case "c.ebreak":
		return "", true
	}
	return "", false
}
