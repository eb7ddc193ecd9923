package encode

import "anvil/layout"

// The shapes of the long forms, named as doc/05-decode.md names their immediates.

func shapeU() shape {
	return shape{Fields: layout.Fields{Rd: longRd(), Imm: layout.Layout{{31, 12, 12}}}, reach: signed(32, 1<<12)}
}

func shapeJ() shape {
	return shape{Fields: layout.Fields{Rd: longRd(), Imm: layout.Layout{{20, 20, 31}, {19, 12, 12}, {11, 11, 20}, {10, 1, 21}}}, reach: signed(21, 2)}
}

func shapeI() shape {
	return shape{Fields: layout.Fields{Rd: longRd(), Rs1: longRs1(), Imm: layout.Layout{{11, 0, 20}}}, reach: signed(12, 1)}
}

func shapeB() shape {
	return shape{Fields: layout.Fields{Rs1: longRs1(), Rs2: longRs2(), Imm: layout.Layout{{12, 12, 31}, {11, 11, 7}, {10, 5, 25}, {4, 1, 8}}}, reach: signed(13, 2)}
}

func shapeS() shape {
	return shape{Fields: layout.Fields{Rs1: longRs1(), Rs2: longRs2(), Imm: layout.Layout{{11, 5, 25}, {4, 0, 7}}}, reach: signed(12, 1)}
}

func shapeN() shape {
	return shape{Fields: layout.Fields{Rd: longRd(), Rs1: longRs1(), Imm: layout.Layout{{11, 0, 20}}}, reach: unsigned(12)}
}

// shapeAmount is that of shifts by up to 63.
func shapeAmount() shape {
	return shape{Fields: layout.Fields{Rd: longRd(), Rs1: longRs1(), Imm: layout.Layout{{5, 0, 20}}}, reach: unsigned(6)}
}

// shapeWordAmount is that of shifts by up to 31.
func shapeWordAmount() shape {
	return shape{Fields: layout.Fields{Rd: longRd(), Rs1: longRs1(), Imm: layout.Layout{{4, 0, 20}}}, reach: unsigned(5)}
}

// shapeR is that of operations on registers alone.
func shapeR() shape {
	return shape{Fields: layout.Fields{Rd: longRd(), Rs1: longRs1(), Rs2: longRs2()}}
}

func shapeAtomic() shape {
	return shape{Fields: layout.Fields{Rd: longRd(), Rs1: longRs1(), Rs2: longRs2()}, ordered: true}
}

// shapeLr: an LR stores nothing, so that it has no Rs2.
func shapeLr() shape {
	return shape{Fields: layout.Fields{Rd: longRd(), Rs1: longRs1()}, ordered: true}
}

// shapeBare is that of instructions that are one raw each.
func shapeBare() shape { return shape{} }

func longRd() layout.Layout  { return layout.Layout{{4, 0, 7}} }
func longRs1() layout.Layout { return layout.Layout{{4, 0, 15}} }
func longRs2() layout.Layout { return layout.Layout{{4, 0, 20}} }
