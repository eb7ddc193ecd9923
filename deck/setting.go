package deck

import (
	"anvil/api"
	"anvil/speak"
)

// setCpu does what one of the Cpu's lines says, and tells which of them it is.
func setCpu(c *api.Cpu, first string, rest []word) (int, api.Errno) {
	switch first {
	case "pc":
		return setPc(c, rest)
	case "mode":
		return setMode(c, rest)
	case "waiting":
		return setWaiting(c, rest)
	case "reg":
		return setRegister(c, rest)
	case "csr":
		return setCsr(c, rest)
	case "pmp":
		return setEntry(c, rest)
	case "res":
		return setReservation(c, rest)
	}
	return 0, api.ErrLine
}

func setPc(c *api.Cpu, rest []word) (int, api.Errno) {
	o, is := operandsOf(rest, aNumber)
	if !is {
		return 0, api.ErrLine
	}
	c.Pc = o[0].value
	return pcLine, api.OK
}

func setMode(c *api.Cpu, rest []word) (int, api.Errno) {
	o, is := operandsOf(rest, aWord)
	if !is {
		return 0, api.ErrLine
	}
	mode, is := modeOf(o[0].text)
	if !is {
		return 0, api.ErrLine
	}
	c.Mode = mode
	return modeLine, api.OK
}

func setWaiting(c *api.Cpu, rest []word) (int, api.Errno) {
	if len(rest) > 0 {
		return 0, api.ErrLine
	}
	c.Waiting = true
	return waitingLine, api.OK
}

func setRegister(c *api.Cpu, rest []word) (int, api.Errno) {
	o, is := operandsOf(rest, aWord, aNumber)
	if !is {
		return 0, api.ErrLine
	}
	n, is := speak.RegOf(o[0].text)
	if !is {
		return 0, api.ErrName
	}
	c.X[n] = o[1].value
	return regLine + n, api.OK
}

func setCsr(c *api.Cpu, rest []word) (int, api.Errno) {
	o, is := operandsOf(rest, aWord, aNumber)
	if !is {
		return 0, api.ErrLine
	}
	num, is := speak.CsrOf(o[0].text)
	if !is {
		return 0, api.ErrName
	}
	name := speak.Csr(num)
	for i, own := range keptCsrs(c) {
		if own.name == name {
			*own.at = o[1].value
			return csrLine + i, api.OK
		}
	}
	return 0, api.ErrName
}

func setEntry(c *api.Cpu, rest []word) (int, api.Errno) {
	o, is := operandsOf(rest, aCount, aNumber, aNumber)
	if !is {
		return 0, api.ErrLine
	}
	if o[0].value >= entries {
		return 0, api.ErrSetting
	}
	i := int(o[0].value)
	c.Pmp.Cfg[i], c.Pmp.Addr[i] = uint8(o[1].value), o[2].value
	return pmpLine + i, api.OK
}

func setReservation(c *api.Cpu, rest []word) (int, api.Errno) {
	o, is := operandsOf(rest, aNumber, aNumber)
	if !is {
		return 0, api.ErrLine
	}
	if size := o[1].value; size != 4 && size != 8 {
		return 0, api.ErrSetting
	}
	c.Res = api.Res{Valid: true, Addr: o[0].value, Size: int(o[1].value)}
	return resLine, api.OK
}
