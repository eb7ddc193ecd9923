package asm

// pseudo is the shape of a pseudo instruction.
func pseudo(head string) (shape, bool) {
	if s, is := jumpingPseudo(head); is {
		return s, true
	}
	if s, is := branchingPseudo(head); is {
		return s, true
	}
	if s, is := csrPseudo(head); is {
		return s, true
	}
	switch head {
	case "nop":
		return oneInstruction("", "addi zero, zero, 0"), true
	case "mv":
		return oneInstruction("rr", "addi $0, $1, 0"), true
	case "not":
		return oneInstruction("rr", "xori $0, $1, -1"), true
	case "neg":
		return oneInstruction("rr", "sub $0, zero, $1"), true
	case "negw":
		return oneInstruction("rr", "subw $0, zero, $1"), true
	case "sext.w":
		return oneInstruction("rr", "addiw $0, $1, 0"), true
	case "seqz":
		return oneInstruction("rr", "sltiu $0, $1, 1"), true
	case "snez":
		return oneInstruction("rr", "sltu $0, zero, $1"), true
	case "sltz":
		return oneInstruction("rr", "slt $0, $1, zero"), true
	case "sgtz":
		return oneInstruction("rr", "slt $0, zero, $1"), true
	case "la", "lla":
		return twoInstructions("rt", "auipc $0, $1", "addi $0, $0, $2"), true
	case "li":
		return shape{letters: "rv", where: inEvenText, first: (*program).makeRow}, true
	case "fence":
		return oneInstruction("", "fence iorw, iorw"), true
	}
	return shape{}, false
}

func jumpingPseudo(head string) (shape, bool) {
	switch head {
	case "j":
		return oneInstruction("t", "jal zero, $0"), true
	case "jal":
		return oneInstruction("t", "jal ra, $0"), true
	case "jr":
		return oneInstruction("r", "jalr zero, 0($0)"), true
	case "jalr":
		return oneInstruction("r", "jalr ra, 0($0)"), true
	case "ret":
		return oneInstruction("", "jalr zero, 0(ra)"), true
	case "call":
		return twoInstructions("t", "auipc ra, $1", "jalr ra, $2(ra)"), true
	case "tail":
		return twoInstructions("t", "auipc t1, $1", "jalr zero, $2(t1)"), true
	}
	return shape{}, false
}

func branchingPseudo(head string) (shape, bool) {
	switch head {
	case "beqz":
		return oneInstruction("rt", "beq $0, zero, $1"), true
	case "bnez":
		return oneInstruction("rt", "bne $0, zero, $1"), true
	case "bgez":
		return oneInstruction("rt", "bge $0, zero, $1"), true
	case "bltz":
		return oneInstruction("rt", "blt $0, zero, $1"), true
	case "blez":
		return oneInstruction("rt", "bge zero, $0, $1"), true
	case "bgtz":
		return oneInstruction("rt", "blt zero, $0, $1"), true
	case "bgt":
		return oneInstruction("rrt", "blt $1, $0, $2"), true
	case "ble":
		return oneInstruction("rrt", "bge $1, $0, $2"), true
	case "bgtu":
		return oneInstruction("rrt", "bltu $1, $0, $2"), true
	case "bleu":
		return oneInstruction("rrt", "bgeu $1, $0, $2"), true
	}
	return shape{}, false
}

func csrPseudo(head string) (shape, bool) {
	switch head {
	case "csrr":
		return oneInstruction("rc", "csrrs $0, $1, zero"), true
	case "csrw":
		return oneInstruction("cr", "csrrw zero, $0, $1"), true
	case "csrs":
		return oneInstruction("cr", "csrrs zero, $0, $1"), true
	case "csrc":
		return oneInstruction("cr", "csrrc zero, $0, $1"), true
	case "csrwi":
		return oneInstruction("ce", "csrrwi zero, $0, $1"), true
	case "csrsi":
		return oneInstruction("ce", "csrrsi zero, $0, $1"), true
	case "csrci":
		return oneInstruction("ce", "csrrci zero, $0, $1"), true
	case "rdcycle":
		return oneInstruction("r", "csrrs $0, cycle, zero"), true
	case "rdtime":
		return oneInstruction("r", "csrrs $0, time, zero"), true
	case "rdinstret":
		return oneInstruction("r", "csrrs $0, instret, zero"), true
	}
	return shape{}, false
}
