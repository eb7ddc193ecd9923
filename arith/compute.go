package arith

import "anvil/api"

// operation: what one of api's numbers makes of two words; nil where the number is no operation.
type operation struct {
	do func(a, b uint64) uint64
}

// Compute is what an operation makes of two registers; false: op is none.
func Compute(op int, a, b uint64) (uint64, bool) {
	if op < 0 || op >= api.Ops {
		return 0, false
	}
	do := operations()[op].do
	if do == nil {
		return 0, false
	}
	return do(a, b), true
}

// operations is the table of what Compute knows, by api's numbers.
func operations() [api.Ops]operation {
	return [api.Ops]operation{
		api.OpAdd:    {add},
		api.OpSub:    {sub},
		api.OpSll:    {sll},
		api.OpSrl:    {srl},
		api.OpSra:    {sra},
		api.OpSlt:    {slt},
		api.OpSltu:   {sltu},
		api.OpXor:    {xor},
		api.OpOr:     {or},
		api.OpAnd:    {and},
		api.OpAddw:   {addw},
		api.OpSubw:   {subw},
		api.OpSllw:   {sllw},
		api.OpSrlw:   {srlw},
		api.OpSraw:   {sraw},
		api.OpMul:    {mul},
		api.OpMulh:   {mulh},
		api.OpMulhsu: {mulhsu},
		api.OpMulhu:  {mulhu},
		api.OpDiv:    {div},
		api.OpDivu:   {divu},
		api.OpRem:    {rem},
		api.OpRemu:   {remu},
		api.OpMulw:   {mulw},
		api.OpDivw:   {divw},
		api.OpDivuw:  {divuw},
		api.OpRemw:   {remw},
		api.OpRemuw:  {remuw},
		api.OpAddi:   {add},
		api.OpSlti:   {slt},
		api.OpSltiu:  {sltu},
		api.OpXori:   {xor},
		api.OpOri:    {or},
		api.OpAndi:   {and},
		api.OpSlli:   {sll},
		api.OpSrli:   {srl},
		api.OpSrai:   {sra},
		api.OpAddiw:  {addw},
		api.OpSlliw:  {sllw},
		api.OpSrliw:  {srlw},
		api.OpSraiw:  {sraw},
	}
}
