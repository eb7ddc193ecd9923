package decode

import "anvil/api"

// byF3 is operations by f3. Where there is none, the number is that of OpIllegal.
type byF3 [8]int

// byKind is atomic operations by raw[31:27], likewise.
type byKind [32]int

func jumps() byF3 {
	return byF3{api.OpJalr}
}

func branches() byF3 {
	return byF3{api.OpBeq, api.OpBne, 4: api.OpBlt, api.OpBge, api.OpBltu, api.OpBgeu}
}

func loads() byF3 {
	return byF3{api.OpLb, api.OpLh, api.OpLw, api.OpLd, api.OpLbu, api.OpLhu, api.OpLwu}
}

func stores() byF3 {
	return byF3{api.OpSb, api.OpSh, api.OpSw, api.OpSd}
}

func fences() byF3 {
	return byF3{api.OpFence, api.OpFenceI}
}

func csrs() byF3 {
	return byF3{1: api.OpCsrrw, api.OpCsrrs, api.OpCsrrc, 5: api.OpCsrrwi, api.OpCsrrsi, api.OpCsrrci}
}

func immediates() byF3 {
	return byF3{0: api.OpAddi, 2: api.OpSlti, api.OpSltiu, api.OpXori, 6: api.OpOri, api.OpAndi}
}

func shifts() byF3 {
	return byF3{1: api.OpSlli, 5: api.OpSrli}
}

func otherShifts() byF3 {
	return byF3{5: api.OpSrai}
}

func immediateWords() byF3 {
	return byF3{api.OpAddiw}
}

func wordShifts() byF3 {
	return byF3{1: api.OpSlliw, 5: api.OpSrliw}
}

func otherWordShifts() byF3 {
	return byF3{5: api.OpSraiw}
}

func plains() byF3 {
	return byF3{api.OpAdd, api.OpSll, api.OpSlt, api.OpSltu, api.OpXor, api.OpSrl, api.OpOr, api.OpAnd}
}

func others() byF3 {
	return byF3{0: api.OpSub, 5: api.OpSra}
}

func products() byF3 {
	return byF3{api.OpMul, api.OpMulh, api.OpMulhsu, api.OpMulhu, api.OpDiv, api.OpDivu, api.OpRem, api.OpRemu}
}

func plainWords() byF3 {
	return byF3{0: api.OpAddw, 1: api.OpSllw, 5: api.OpSrlw}
}

func otherWords() byF3 {
	return byF3{0: api.OpSubw, 5: api.OpSraw}
}

func productWords() byF3 {
	return byF3{0: api.OpMulw, 4: api.OpDivw, api.OpDivuw, api.OpRemw, api.OpRemuw}
}

func atomicWords() byKind {
	return byKind{
		api.OpAmoaddW, api.OpAmoswapW, api.OpLrW, api.OpScW,
		4: api.OpAmoxorW, 8: api.OpAmoorW, 12: api.OpAmoandW,
		16: api.OpAmominW, 20: api.OpAmomaxW, 24: api.OpAmominuW, 28: api.OpAmomaxuW,
	}
}

func atomicDoubles() byKind {
	return byKind{
		api.OpAmoaddD, api.OpAmoswapD, api.OpLrD, api.OpScD,
		4: api.OpAmoxorD, 8: api.OpAmoorD, 12: api.OpAmoandD,
		16: api.OpAmominD, 20: api.OpAmomaxD, 24: api.OpAmominuD, 28: api.OpAmomaxuD,
	}
}
