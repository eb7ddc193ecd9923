package deck

import (
	"strconv"
	"strings"

	"anvil/api"
	"anvil/csr"
	"anvil/number"
	"anvil/speak"
)

// The Cpu's lines, in the order in which they are told; where there are several of a kind, the first one's place.
const (
	pcLine      = 0
	modeLine    = pcLine + 1
	waitingLine = modeLine + 1
	regLine     = waitingLine + 1
	csrLine     = regLine + registers
	pmpLine     = csrLine + csrs
	resLine     = pmpLine + entries
	cpuLines    = resLine + 1
)

// How many there are of a kind.
const (
	registers = 32
	csrs      = 12
	entries   = 16
)

// keptCsr is a CSR that lines say: its name, and where the Cpu keeps it.
type keptCsr struct {
	name string
	at   *uint64
}

// keptCsrs is those CSRs, in the order in which they are told.
func keptCsrs(c *api.Cpu) [csrs]keptCsr {
	return [csrs]keptCsr{
		{"mstatus", &c.Mstatus},
		{"mtvec", &c.Mtvec},
		{"mie", &c.Mie},
		{"mcounteren", &c.Mcounteren},
		{"mcountinhibit", &c.Mcountinhibit},
		{"menvcfg", &c.Menvcfg},
		{"mscratch", &c.Mscratch},
		{"mepc", &c.Mepc},
		{"mcause", &c.Mcause},
		{"mtval", &c.Mtval},
		{"mcycle", &c.Mcycle},
		{"minstret", &c.Minstret},
	}
}

// cpuLine is the Cpu's line at this place of their order; empty, if it is left out.
func cpuLine(c api.Cpu, place int) string {
	switch {
	case place == pcLine:
		return joined("pc", number.Hex(c.Pc))
	case place == modeLine:
		return joined("mode", modeName(c.Mode))
	case place == waitingLine && c.Waiting:
		return "waiting"
	case place >= regLine && place < csrLine:
		return registerText(c, place-regLine)
	case place >= csrLine && place < pmpLine:
		return csrText(c, place-csrLine)
	case place >= pmpLine && place < resLine:
		return entryText(c, place-pmpLine)
	case place == resLine && c.Res.Valid:
		return joined("res", number.Hex(c.Res.Addr), strconv.Itoa(c.Res.Size))
	}
	return ""
}

func registerText(c api.Cpu, n int) string {
	if c.X[n] == 0 {
		return ""
	}
	return joined("reg", speak.Reg(n), number.Hex(c.X[n]))
}

func csrText(c api.Cpu, i int) string {
	zero := csr.Proper(api.Cpu{})
	own := keptCsrs(&c)[i]
	if *own.at == *keptCsrs(&zero)[i].at {
		return ""
	}
	return joined("csr", own.name, number.Hex(*own.at))
}

func entryText(c api.Cpu, i int) string {
	cfg, addr := c.Pmp.Cfg[i], c.Pmp.Addr[i]
	if cfg == 0 && addr == 0 {
		return ""
	}
	return joined("pmp", strconv.Itoa(i), number.Hex(uint64(cfg)), number.Hex(addr))
}

func modeName(mode int) string {
	if mode == api.M {
		return "m"
	}
	return "u"
}

// modeOf is the mode that a name says; false: it is none.
func modeOf(name string) (int, bool) {
	for _, mode := range [...]int{api.U, api.M} {
		if name == modeName(mode) {
			return mode, true
		}
	}
	return 0, false
}

// joined is words with one space between two.
func joined(words ...string) string { return strings.Join(words, " ") }
