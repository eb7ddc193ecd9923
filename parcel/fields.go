package parcel

import "anvil/layout"

// Where the fields of each kind stand.

// space: from the stack pointer on to a place.
func space() layout.Fields {
	return layout.Fields{Rd: fewT(), Imm: layout.Layout{{5, 4, 11}, {9, 6, 7}, {2, 2, 6}, {3, 3, 5}}}
}

func six() layout.Fields {
	return layout.Fields{Rd: anyR(), Imm: layout.Layout{{5, 5, 12}, {4, 0, 2}}}
}

// stack: the stack pointer's own step.
func stack() layout.Fields {
	return layout.Fields{Imm: layout.Layout{{9, 9, 12}, {4, 4, 6}, {6, 6, 5}, {8, 7, 3}, {5, 5, 2}}}
}

func upper() layout.Fields {
	return layout.Fields{Rd: anyR(), Imm: layout.Layout{{17, 17, 12}, {16, 12, 2}}}
}

func loadWord() layout.Fields {
	return layout.Fields{Rd: fewT(), Rs1: fewR(), Imm: word()}
}

func loadDouble() layout.Fields {
	return layout.Fields{Rd: fewT(), Rs1: fewR(), Imm: double()}
}

func storeWord() layout.Fields {
	return layout.Fields{Rs1: fewR(), Rs2: fewT(), Imm: word()}
}

func storeDouble() layout.Fields {
	return layout.Fields{Rs1: fewR(), Rs2: fewT(), Imm: double()}
}

// popWord and the three behind it: from the stack pointer on.
func popWord() layout.Fields {
	return layout.Fields{Rd: anyR(), Imm: layout.Layout{{5, 5, 12}, {4, 2, 4}, {7, 6, 2}}}
}

func popDouble() layout.Fields {
	return layout.Fields{Rd: anyR(), Imm: layout.Layout{{5, 5, 12}, {4, 3, 5}, {8, 6, 2}}}
}

func pushWord() layout.Fields {
	return layout.Fields{Rs2: anyT(), Imm: layout.Layout{{5, 2, 9}, {7, 6, 7}}}
}

func pushDouble() layout.Fields {
	return layout.Fields{Rs2: anyT(), Imm: layout.Layout{{5, 3, 10}, {8, 6, 7}}}
}

func sixOnFew() layout.Fields {
	return layout.Fields{Rd: fewR(), Imm: layout.Layout{{5, 5, 12}, {4, 0, 2}}}
}

func pair() layout.Fields {
	return layout.Fields{Rd: fewR(), Rs2: fewT()}
}

func jump() layout.Fields {
	return layout.Fields{Imm: layout.Layout{{11, 11, 12}, {4, 4, 11}, {9, 8, 9}, {10, 10, 8}, {6, 6, 7}, {7, 7, 6}, {3, 1, 3}, {5, 5, 2}}}
}

func branch() layout.Fields {
	return layout.Fields{Rs1: fewR(), Imm: layout.Layout{{8, 8, 12}, {4, 3, 10}, {7, 6, 5}, {2, 1, 3}, {5, 5, 2}}}
}

func target() layout.Fields {
	return layout.Fields{Rs1: anyR()}
}

func registers() layout.Fields {
	return layout.Fields{Rd: anyR(), Rs2: anyT()}
}

func bare() layout.Fields { return layout.Fields{} }

func word() layout.Layout   { return layout.Layout{{5, 3, 10}, {2, 2, 6}, {6, 6, 5}} }
func double() layout.Layout { return layout.Layout{{5, 3, 10}, {7, 6, 5}} }

// The places of registers: all of them, or x8 to x15, whose low three bits tell them.
func anyR() layout.Layout { return layout.Layout{{4, 0, 7}} }
func anyT() layout.Layout { return layout.Layout{{4, 0, 2}} }
func fewR() layout.Layout { return layout.Layout{{2, 0, 7}} }
func fewT() layout.Layout { return layout.Layout{{2, 0, 2}} }
