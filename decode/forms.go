package decode

// form is a row of the table of 16 bit instructions: which parcels it takes, and which long instruction they stand for.
type form struct {
	mask, is     uint16 // the bits of a parcel that tell the row, and what they are
	some         uint16 // bits of which one at least is set, unless there are none
	long         uint32 // the long instruction, but for what comes from the parcel
	rd, rs1, rs2 uint8  // where in the parcel its registers stand
	number       uint8  // where in the parcel its number stands
}

// Where in a parcel a register stands: nowhere; r and t, any register; r' and t', one of x8 to x15.
const (
	nowhere = iota
	fromR
	fromT
	fromShortR
	fromShortT
)

// firstShort is the register that the short register numbers count from.
const firstShort = 8

// formCount is how many rows there are.
const formCount = 32

// forms is the table. Of two rows that take one parcel the first counts.
var forms [formCount]form

// init lays the rows one behind the other. That q and f tell a row, each of them, is said here alone.
func init() {
	next := 0
	for q, rows := range [3][]form{formsOf0(), formsOf1(), formsOf2()} {
		for _, row := range rows {
			row.mask |= bitsQ | bitsF
			row.is |= uint16(q)
			forms[next] = row
			next++
		}
	}
}

// takes tells whether a parcel is of this row.
func (row form) takes(p uint16) bool {
	return p&row.mask == row.is && (row.some == 0 || p&row.some != 0)
}

// expand is the long instruction that a parcel of this row stands for.
func (row form) expand(p uint16) uint32 {
	registers := register(p, row.rd)<<atRd | register(p, row.rs1)<<atRs1 | register(p, row.rs2)<<atRs2
	return row.long | registers | place(part(row.long, 6, 0), number(p, row.number))
}

// register is the register that stands somewhere in a parcel; 0 where there is none.
func register(p uint16, from uint8) uint32 {
	raw := uint32(p)
	switch from {
	case fromR:
		return move(raw, 11, 7, 0)
	case fromT:
		return move(raw, 6, 2, 0)
	case fromShortR:
		return firstShort + move(raw, 9, 7, 0)
	case fromShortT:
		return firstShort + move(raw, 4, 2, 0)
	}
	return 0
}
