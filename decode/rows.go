package decode

import "anvil/opcode"

// Where parts of a parcel begin.
const (
	atPair = 5
	atR    = 7
	atKind = 10
	atF    = 13
)

// The bits of a parcel, by what the document calls them.
const (
	bitsQ     = 0x0003
	bitsT     = 0x007c
	bitsPair  = 0x0060 // p[6:5]
	bitsR     = 0x0f80
	bitsKind  = 0x0c00 // p[11:10]
	bitTop    = 0x1000 // p[12]
	bitsF     = 0xe000
	bitsSix   = bitTop | bitsT // i6 and s6, and the number of the row that has r 2
	bitsSpace = 0x1fe0         // the number of the row with q 0 and f 0
)

// Registers that a row names itself.
const (
	ra = 1
	sp = 2
)

// The long instructions that rows stand for, without registers and numbers.
const (
	longAddi  = opcode.Immediate
	longAndi  = opcode.Immediate | 7<<atF3
	longSlli  = opcode.Immediate | 1<<atF3
	longSrli  = opcode.Immediate | 5<<atF3
	longSrai  = longSrli | otherF7<<atF7
	longAddiw = opcode.ImmediateWord
	longLui   = opcode.Lui
	longLw    = opcode.Load | 2<<atF3
	longLd    = opcode.Load | 3<<atF3
	longSw    = opcode.Store | 2<<atF3
	longSd    = opcode.Store | 3<<atF3
	longAdd   = opcode.Register
	longSub   = opcode.Register | otherF7<<atF7
	longXor   = opcode.Register | 4<<atF3
	longOr    = opcode.Register | 6<<atF3
	longAnd   = opcode.Register | 7<<atF3
	longAddw  = opcode.RegisterWord
	longSubw  = opcode.RegisterWord | otherF7<<atF7
	longJal   = opcode.Jal
	longJalr  = opcode.Jalr
	longBeq   = opcode.Branch
	longBne   = opcode.Branch | 1<<atF3
)

// formsOf0 is the rows with q 0.
func formsOf0() []form {
	return []form{
		{is: 0 << atF, some: bitsSpace, long: longAddi | sp<<atRs1, rd: fromShortT, number: numberSpace},
		{is: 2 << atF, long: longLw, rd: fromShortT, rs1: fromShortR, number: numberWord},
		{is: 3 << atF, long: longLd, rd: fromShortT, rs1: fromShortR, number: numberDouble},
		{is: 6 << atF, long: longSw, rs1: fromShortR, rs2: fromShortT, number: numberWord},
		{is: 7 << atF, long: longSd, rs1: fromShortR, rs2: fromShortT, number: numberDouble},
	}
}

// formsOf1 is the rows with q 1.
func formsOf1() []form {
	return append([]form{
		{is: 0 << atF, long: longAddi, rd: fromR, rs1: fromR, number: numberSigned},
		{is: 1 << atF, some: bitsR, long: longAddiw, rd: fromR, rs1: fromR, number: numberSigned},
		{is: 2 << atF, long: longAddi, rd: fromR, number: numberSigned},
		// The two rows with f 3 demand something of the same bits, so what the first one refuses of those with r 2 the second one refuses too.
		{is: 3<<atF | sp<<atR, mask: bitsR, some: bitsSix, long: longAddi | sp<<atRd | sp<<atRs1, number: numberStack},
		{is: 3 << atF, some: bitsSix, long: longLui, rd: fromR, number: numberUpper},
		{is: 5 << atF, long: longJal, number: numberJump},
		{is: 6 << atF, long: longBeq, rs1: fromShortR, number: numberBranch},
		{is: 7 << atF, long: longBne, rs1: fromShortR, number: numberBranch},
	}, formsOfArith()...)
}

// formsOfArith is the rows with q 1 and f 4. Those with two registers have no number, so that more of their bits tell them.
func formsOfArith() []form {
	const (
		first    = 4 << atF
		pairs    = first | 3<<atKind
		allPairs = bitsKind | bitTop | bitsPair
	)
	return []form{
		{is: first | 0<<atKind, mask: bitsKind, long: longSrli, rd: fromShortR, rs1: fromShortR, number: numberPlain},
		{is: first | 1<<atKind, mask: bitsKind, long: longSrai, rd: fromShortR, rs1: fromShortR, number: numberPlain},
		{is: first | 2<<atKind, mask: bitsKind, long: longAndi, rd: fromShortR, rs1: fromShortR, number: numberSigned},
		{is: pairs | 0<<atPair, mask: allPairs, long: longSub, rd: fromShortR, rs1: fromShortR, rs2: fromShortT},
		{is: pairs | 1<<atPair, mask: allPairs, long: longXor, rd: fromShortR, rs1: fromShortR, rs2: fromShortT},
		{is: pairs | 2<<atPair, mask: allPairs, long: longOr, rd: fromShortR, rs1: fromShortR, rs2: fromShortT},
		{is: pairs | 3<<atPair, mask: allPairs, long: longAnd, rd: fromShortR, rs1: fromShortR, rs2: fromShortT},
		{is: pairs | bitTop | 0<<atPair, mask: allPairs, long: longSubw, rd: fromShortR, rs1: fromShortR, rs2: fromShortT},
		{is: pairs | bitTop | 1<<atPair, mask: allPairs, long: longAddw, rd: fromShortR, rs1: fromShortR, rs2: fromShortT},
	}
}

// formsOf2 is the rows with q 2.
func formsOf2() []form {
	return []form{
		{is: 0 << atF, long: longSlli, rd: fromR, rs1: fromR, number: numberPlain},
		{is: 2 << atF, some: bitsR, long: longLw | sp<<atRs1, rd: fromR, number: numberLoadWord},
		{is: 3 << atF, some: bitsR, long: longLd | sp<<atRs1, rd: fromR, number: numberLoadDouble},
		{is: 4 << atF, mask: bitsSix, some: bitsR, long: longJalr, rs1: fromR},
		{is: 4 << atF, mask: bitTop, some: bitsT, long: longAdd, rd: fromR, rs2: fromT},
		{is: 4<<atF | bitTop, mask: bitsSix | bitsR, long: rawEbreak},
		{is: 4<<atF | bitTop, mask: bitsSix, some: bitsR, long: longJalr | ra<<atRd, rs1: fromR},
		{is: 4<<atF | bitTop, mask: bitTop, some: bitsT, long: longAdd, rd: fromR, rs1: fromR, rs2: fromT},
		{is: 6 << atF, long: longSw | sp<<atRs1, rs2: fromT, number: numberStoreWord},
		{is: 7 << atF, long: longSd | sp<<atRs1, rs2: fromT, number: numberStoreDouble},
	}
}
