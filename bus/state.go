package bus

import "anvil/api"

// The bits that a register has are those up to its highest value.
const (
	highestMsip = 1
	highestIer  = 15
	highestMcr  = 31
	highestCode = 65535
)

// canBe tells whether a bus can keep a state.
func canBe(s api.Bus) bool {
	return isRamSize(len(s.Ram)) &&
		s.Msip <= highestMsip && s.Ier <= highestIer && s.Mcr <= highestMcr &&
		len(s.Input) <= api.MaxInput && len(s.Output) <= api.MaxOutput &&
		isPower(s.Off, s.Code)
}

// isRamSize tells whether RAM can have so many bytes.
func isRamSize(n int) bool {
	return n >= wordBytes && n <= api.MaxRam && n%wordBytes == 0
}

// isPower tells whether the power switch can stand so. Only a failure has a code.
func isPower(off, code int) bool {
	switch off {
	case api.Running, api.Passed:
		return code == 0
	case api.Failed:
		return code >= 0 && code <= highestCode
	}
	return false
}
