package encode

import "anvil/api"

// Where parts of a parcel begin that tell a form.
const (
	atPair  = 5  // p[6:5]
	atR     = 7  // p[11:7]
	atGroup = 10 // p[11:10]
	atTop   = 12
	atF     = 13
)

// What such parts are, together.
const (
	group = 1 | 4<<atF
	pairs = group | 3<<atGroup
	heads = 2 | 4<<atF
	sp    = 2
)

// shortForms is the forms of 16 bits, by operation. None of them says which registers must be the same, or what may not be 0: whoever takes a form asks decode whether the parcel says the record.
func shortForms() map[int][]form {
	return map[int][]form{
		api.OpAddi: {
			{0 | 0<<atF, shortSpace},
			{1 | 0<<atF, shortSix},
			{1 | 2<<atF, shortSix},
			{1 | 3<<atF | sp<<atR, shortStack},
		},
		api.OpAddiw:  {{1 | 1<<atF, shortSix}},
		api.OpLui:    {{1 | 3<<atF, shortUpper}},
		api.OpLw:     {{0 | 2<<atF, shortLoadWord}, {2 | 2<<atF, shortPopWord}},
		api.OpLd:     {{0 | 3<<atF, shortLoadDouble}, {2 | 3<<atF, shortPopDouble}},
		api.OpSw:     {{0 | 6<<atF, shortStoreWord}, {2 | 6<<atF, shortPushWord}},
		api.OpSd:     {{0 | 7<<atF, shortStoreDouble}, {2 | 7<<atF, shortPushDouble}},
		api.OpSrli:   {{group | 0<<atGroup, shortSixOnFew}},
		api.OpSrai:   {{group | 1<<atGroup, shortSixOnFew}},
		api.OpAndi:   {{group | 2<<atGroup, shortSixOnFew}},
		api.OpSub:    {{pairs | 0<<atPair, shortPair}},
		api.OpXor:    {{pairs | 1<<atPair, shortPair}},
		api.OpOr:     {{pairs | 2<<atPair, shortPair}},
		api.OpAnd:    {{pairs | 3<<atPair, shortPair}},
		api.OpSubw:   {{pairs | 1<<atTop | 0<<atPair, shortPair}},
		api.OpAddw:   {{pairs | 1<<atTop | 1<<atPair, shortPair}},
		api.OpJal:    {{1 | 5<<atF, shortJump}},
		api.OpBeq:    {{1 | 6<<atF, shortBranch}},
		api.OpBne:    {{1 | 7<<atF, shortBranch}},
		api.OpSlli:   {{2 | 0<<atF, shortSix}},
		api.OpJalr:   {{heads, shortTarget}, {heads | 1<<atTop, shortTarget}},
		api.OpAdd:    {{heads, shortRegisters}, {heads | 1<<atTop, shortRegisters}},
		api.OpEbreak: {{heads | 1<<atTop, shapeBare}},
	}
}
