package board_test

// spread is the 32 bit instruction that a parcel stands for, row by row as chapter 5 has them; false: none.
func spread(p uint16) (uint32, bool) {
	raw := uint32(p)
	switch raw & 3 {
	case 0:
		return spread0(raw)
	case 1:
		return spread1(raw)
	case 2:
		return spread2(raw)
	}
	return 0, false
}

func asI(opcode, f3, rd, rs1, number uint32) uint32 {
	return number<<20 | rs1<<15 | f3<<12 | rd<<7 | opcode
}

func asS(f3, rs1, rs2, number uint32) uint32 {
	return from(number, 11, 5)<<25 | rs2<<20 | rs1<<15 | f3<<12 | from(number, 4, 0)<<7 | 0x23
}

func asR(opcode, f7, f3, rd, rs1, rs2 uint32) uint32 {
	return f7<<25 | rs2<<20 | asI(opcode, f3, rd, rs1, 0)
}

func asJ(number uint32) uint32 {
	return from(number, 20, 20)<<31 | from(number, 10, 1)<<21 | from(number, 11, 11)<<20 | from(number, 19, 12)<<12 | 0x6f
}

func asB(f3, rs1, number uint32) uint32 {
	return from(number, 12, 12)<<31 | from(number, 10, 5)<<25 | rs1<<15 | f3<<12 | from(number, 4, 1)<<8 | from(number, 11, 11)<<7 | 0x63
}

func spread0(p uint32) (uint32, bool) {
	r, t := 8+from(p, 9, 7), 8+from(p, 4, 2)
	of4 := from(p, 12, 10)<<3 | from(p, 6, 6)<<2 | from(p, 5, 5)<<6
	of8 := from(p, 12, 10)<<3 | from(p, 6, 5)<<6
	switch p >> 13 {
	case 0:
		n := from(p, 12, 11)<<4 | from(p, 10, 7)<<6 | from(p, 6, 6)<<2 | from(p, 5, 5)<<3
		return asI(0x13, 0, t, 2, n), n != 0
	case 2:
		return asI(0x03, 2, t, r, of4), true
	case 3:
		return asI(0x03, 3, t, r, of8), true
	case 6:
		return asS(2, r, t, of4), true
	case 7:
		return asS(3, r, t, of8), true
	}
	return 0, false
}

func spread1(p uint32) (uint32, bool) {
	r := from(p, 11, 7)
	six := from(p, 12, 12)<<5 | from(p, 6, 2)
	number := uint32(sx(six, 6))
	switch p >> 13 {
	case 0:
		return asI(0x13, 0, r, r, number), true
	case 1:
		return asI(0x1b, 0, r, r, number), r != 0
	case 2:
		return asI(0x13, 0, r, 0, number), true
	case 3:
		if r == 2 {
			n := from(p, 12, 12)<<9 | from(p, 6, 6)<<4 | from(p, 5, 5)<<6 | from(p, 4, 3)<<7 | from(p, 2, 2)<<5
			return asI(0x13, 0, 2, 2, uint32(sx(n, 10))), n != 0
		}
		return number<<12 | r<<7 | 0x37, six != 0
	case 4:
		return spread14(p, six, number)
	case 5:
		n := from(p, 12, 12)<<11 | from(p, 11, 11)<<4 | from(p, 10, 9)<<8 | from(p, 8, 8)<<10 | from(p, 7, 7)<<6 | from(p, 6, 6)<<7 | from(p, 5, 3)<<1 | from(p, 2, 2)<<5
		return asJ(uint32(sx(n, 12))), true
	}
	n := from(p, 12, 12)<<8 | from(p, 11, 10)<<3 | from(p, 6, 5)<<6 | from(p, 4, 3)<<1 | from(p, 2, 2)<<5
	return asB(p>>13-6, 8+from(p, 9, 7), uint32(sx(n, 9))), true
}

// spread14 is the parcels of q 1 and f 4.
func spread14(p, six, number uint32) (uint32, bool) {
	r, t := 8+from(p, 9, 7), 8+from(p, 4, 2)
	switch from(p, 11, 10) {
	case 0:
		return asI(0x13, 5, r, r, six), true
	case 1:
		return asI(0x13, 5, r, r, 0x400|six), true
	case 2:
		return asI(0x13, 7, r, r, number), true
	}
	switch from(p, 12, 12)<<2 | from(p, 6, 5) {
	case 0:
		return asR(0x33, 32, 0, r, r, t), true
	case 1:
		return asR(0x33, 0, 4, r, r, t), true
	case 2:
		return asR(0x33, 0, 6, r, r, t), true
	case 3:
		return asR(0x33, 0, 7, r, r, t), true
	case 4:
		return asR(0x3b, 32, 0, r, r, t), true
	case 5:
		return asR(0x3b, 0, 0, r, r, t), true
	}
	return 0, false
}

func spread2(p uint32) (uint32, bool) {
	r, t, top := from(p, 11, 7), from(p, 6, 2), from(p, 12, 12)
	switch p >> 13 {
	case 0:
		return asI(0x13, 1, r, r, top<<5|t), true
	case 2:
		return asI(0x03, 2, r, 2, top<<5|from(p, 6, 4)<<2|from(p, 3, 2)<<6), r != 0
	case 3:
		return asI(0x03, 3, r, 2, top<<5|from(p, 6, 5)<<3|from(p, 4, 2)<<6), r != 0
	case 4:
		switch {
		case t != 0:
			return asR(0x33, 0, 0, r, r*top, t), true
		case r != 0:
			return asI(0x67, 0, top, r, 0), true
		}
		return 0x00100073, top == 1
	case 6:
		return asS(2, 2, t, from(p, 12, 9)<<2|from(p, 8, 7)<<6), true
	case 7:
		return asS(3, 2, t, from(p, 12, 10)<<3|from(p, 9, 7)<<6), true
	}
	return 0, false
}
