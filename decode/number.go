package decode

// Where in a parcel a number stands, by what it is for.
const (
	numberNone        = iota
	numberSigned      // i6
	numberPlain       // s6
	numberUpper       // i6 times 4096
	numberSpace       // from the stack pointer on to a place
	numberStack       // the stack pointer's own step
	numberWord        // to a word, from a register on
	numberDouble      // to a double word, from a register on
	numberLoadWord    // to a word that is loaded, from the stack pointer on
	numberLoadDouble  // to a double word that is loaded, from there on
	numberStoreWord   // to a word that is stored, from there on
	numberStoreDouble // to a double word that is stored, from there on
	numberJump        // a jump's distance
	numberBranch      // a branch's distance
)

// number is the number that stands somewhere in a parcel, its sign in all the bits above it; 0 where there is none.
func number(p uint16, from uint8) uint32 {
	raw := uint32(p)
	six := move(raw, 12, 12, 5) | move(raw, 6, 2, 0)
	switch from {
	case numberSigned:
		return widen(six, 6)
	case numberPlain:
		return six
	case numberUpper:
		return widen(six, 6) << 12
	case numberSpace:
		return move(raw, 12, 11, 4) | move(raw, 10, 7, 6) | move(raw, 6, 6, 2) | move(raw, 5, 5, 3)
	case numberStack:
		return widen(move(raw, 12, 12, 9)|move(raw, 6, 6, 4)|move(raw, 5, 5, 6)|move(raw, 4, 3, 7)|move(raw, 2, 2, 5), 10)
	case numberWord:
		return move(raw, 12, 10, 3) | move(raw, 6, 6, 2) | move(raw, 5, 5, 6)
	case numberDouble:
		return move(raw, 12, 10, 3) | move(raw, 6, 5, 6)
	case numberLoadWord:
		return move(raw, 12, 12, 5) | move(raw, 6, 4, 2) | move(raw, 3, 2, 6)
	case numberLoadDouble:
		return move(raw, 12, 12, 5) | move(raw, 6, 5, 3) | move(raw, 4, 2, 6)
	case numberStoreWord:
		return move(raw, 12, 9, 2) | move(raw, 8, 7, 6)
	case numberStoreDouble:
		return move(raw, 12, 10, 3) | move(raw, 9, 7, 6)
	case numberJump:
		return jumpDistance(raw)
	case numberBranch:
		return branchDistance(raw)
	}
	return 0
}

func jumpDistance(raw uint32) uint32 {
	high := move(raw, 12, 12, 11) | move(raw, 8, 8, 10) | move(raw, 10, 9, 8) | move(raw, 6, 6, 7)
	low := move(raw, 7, 7, 6) | move(raw, 2, 2, 5) | move(raw, 11, 11, 4) | move(raw, 5, 3, 1)
	return widen(high|low, 12)
}

func branchDistance(raw uint32) uint32 {
	high := move(raw, 12, 12, 8) | move(raw, 6, 5, 6)
	low := move(raw, 2, 2, 5) | move(raw, 11, 10, 3) | move(raw, 4, 3, 1)
	return widen(high|low, 9)
}

// widen is a number of so many bits with its sign in all the bits above it.
func widen(n uint32, bits int) uint32 {
	return uint32(signed(n, bits))
}
