package encode

// The shapes of the short forms.

// shortSpace: from the stack pointer on to a place.
func shortSpace() shape {
	return shape{rd: fewT(), imm: layout{{5, 4, 11}, {9, 6, 7}, {2, 2, 6}, {3, 3, 5}}}
}

func shortSix() shape {
	return shape{rd: anyR(), imm: layout{{5, 5, 12}, {4, 0, 2}}}
}

// shortStack: the stack pointer's own step.
func shortStack() shape {
	return shape{imm: layout{{9, 9, 12}, {4, 4, 6}, {6, 6, 5}, {8, 7, 3}, {5, 5, 2}}}
}

func shortUpper() shape {
	return shape{rd: anyR(), imm: layout{{17, 17, 12}, {16, 12, 2}}}
}

func shortLoadWord() shape {
	return shape{rd: fewT(), rs1: fewR(), imm: shortWord()}
}

func shortLoadDouble() shape {
	return shape{rd: fewT(), rs1: fewR(), imm: shortDouble()}
}

func shortStoreWord() shape {
	return shape{rs1: fewR(), rs2: fewT(), imm: shortWord()}
}

func shortStoreDouble() shape {
	return shape{rs1: fewR(), rs2: fewT(), imm: shortDouble()}
}

// shortPopWord and the three behind it: from the stack pointer on.
func shortPopWord() shape {
	return shape{rd: anyR(), imm: layout{{5, 5, 12}, {4, 2, 4}, {7, 6, 2}}}
}

func shortPopDouble() shape {
	return shape{rd: anyR(), imm: layout{{5, 5, 12}, {4, 3, 5}, {8, 6, 2}}}
}

func shortPushWord() shape {
	return shape{rs2: anyT(), imm: layout{{5, 2, 9}, {7, 6, 7}}}
}

func shortPushDouble() shape {
	return shape{rs2: anyT(), imm: layout{{5, 3, 10}, {8, 6, 7}}}
}

func shortSixOnFew() shape {
	return shape{rd: fewR(), imm: layout{{5, 5, 12}, {4, 0, 2}}}
}

func shortPair() shape {
	return shape{rd: fewR(), rs2: fewT()}
}

func shortJump() shape {
	return shape{imm: layout{{11, 11, 12}, {4, 4, 11}, {9, 8, 9}, {10, 10, 8}, {6, 6, 7}, {7, 7, 6}, {3, 1, 3}, {5, 5, 2}}}
}

func shortBranch() shape {
	return shape{rs1: fewR(), imm: layout{{8, 8, 12}, {4, 3, 10}, {7, 6, 5}, {2, 1, 3}, {5, 5, 2}}}
}

func shortTarget() shape {
	return shape{rs1: anyR()}
}

func shortRegisters() shape {
	return shape{rd: anyR(), rs2: anyT()}
}

func shortWord() layout   { return layout{{5, 3, 10}, {2, 2, 6}, {6, 6, 5}} }
func shortDouble() layout { return layout{{5, 3, 10}, {7, 6, 5}} }

// The places of registers: all of them, or x8 to x15, whose low three bits tell them.
func anyR() layout { return layout{{4, 0, 7}} }
func anyT() layout { return layout{{4, 0, 2}} }
func fewR() layout { return layout{{2, 0, 7}} }
func fewT() layout { return layout{{2, 0, 2}} }
