package parcel

import "anvil/api"

// Where parts of a parcel begin that tell a form.
const (
	atPair  = 5  // p[6:5]
	atR     = 7  // p[11:7]
	atGroup = 10 // p[11:10]
	atTop   = 12
	atF     = 13
)

// What such parts are, together.
const (
	group = 1 | 4<<atF
	pairs = group | 3<<atGroup
	heads = 2 | 4<<atF
	sp    = 2
)

// forms is all of them, by operation. None says which registers must be the same, or what may not be 0: whoever takes a form asks decode whether the parcel says the record.
func forms() map[int][]form {
	return map[int][]form{
		api.OpAddi: {
			{0 | 0<<atF, space},
			{1 | 0<<atF, six},
			{1 | 2<<atF, six},
			{1 | 3<<atF | sp<<atR, stack},
		},
		api.OpAddiw:  {{1 | 1<<atF, six}},
		api.OpLui:    {{1 | 3<<atF, upper}},
		api.OpLw:     {{0 | 2<<atF, loadWord}, {2 | 2<<atF, popWord}},
		api.OpLd:     {{0 | 3<<atF, loadDouble}, {2 | 3<<atF, popDouble}},
		api.OpSw:     {{0 | 6<<atF, storeWord}, {2 | 6<<atF, pushWord}},
		api.OpSd:     {{0 | 7<<atF, storeDouble}, {2 | 7<<atF, pushDouble}},
		api.OpSrli:   {{group | 0<<atGroup, sixOnFew}},
		api.OpSrai:   {{group | 1<<atGroup, sixOnFew}},
		api.OpAndi:   {{group | 2<<atGroup, sixOnFew}},
		api.OpSub:    {{pairs | 0<<atPair, pair}},
		api.OpXor:    {{pairs | 1<<atPair, pair}},
		api.OpOr:     {{pairs | 2<<atPair, pair}},
		api.OpAnd:    {{pairs | 3<<atPair, pair}},
		api.OpSubw:   {{pairs | 1<<atTop | 0<<atPair, pair}},
		api.OpAddw:   {{pairs | 1<<atTop | 1<<atPair, pair}},
		api.OpJal:    {{1 | 5<<atF, jump}},
		api.OpBeq:    {{1 | 6<<atF, branch}},
		api.OpBne:    {{1 | 7<<atF, branch}},
		api.OpSlli:   {{2 | 0<<atF, six}},
		api.OpJalr:   {{heads, target}, {heads | 1<<atTop, target}},
		api.OpAdd:    {{heads, registers}, {heads | 1<<atTop, registers}},
		api.OpEbreak: {{heads | 1<<atTop, bare}},
	}
}
