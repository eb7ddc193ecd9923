package speak

import (
	"strconv"

	"anvil/number"
)

// csrCount is how many numbers there are for CSRs.
const csrCount = 4096

// csrs is CSRs whose numbers stand one behind the other.
type csrs struct {
	first int
	names []string
}

// counted is such CSRs whose names are one word and a count that goes up.
type counted struct {
	first, least, most int
	word               string
}

// Csr is a CSR's name (its number in hex digits, if it has none).
func Csr(n int) string {
	if n < 0 || n >= csrCount {
		return ""
	}
	for _, c := range namedCsrs() {
		if at := n - c.first; at >= 0 && at < len(c.names) {
			return c.names[at]
		}
	}
	for _, c := range countedCsrs() {
		if count := n - c.first + c.least; count >= c.least && count <= c.most {
			return c.name(count)
		}
	}
	return number.Hex(uint64(n))
}

// CsrOf is a name's CSR.
func CsrOf(name string) (int, bool) {
	if n, is := number.Count(name); is && n < csrCount {
		return int(n), true
	}
	for _, c := range namedCsrs() {
		for at, own := range c.names {
			if name == own {
				return c.first + at, true
			}
		}
	}
	for _, c := range countedCsrs() {
		for count := c.least; count <= c.most; count++ {
			if name == c.name(count) {
				return c.first + count - c.least, true
			}
		}
	}
	return 0, false
}

// name is the name with a count.
func (c counted) name(count int) string {
	return c.word + strconv.Itoa(count)
}

func namedCsrs() []csrs {
	return []csrs{
		{0x300, []string{"mstatus", "misa"}},
		{0x304, []string{"mie", "mtvec", "mcounteren"}},
		{0x30a, []string{"menvcfg"}},
		{0x320, []string{"mcountinhibit"}},
		{0x340, []string{"mscratch", "mepc", "mcause", "mtval", "mip"}},
		{0x3a0, []string{"pmpcfg0"}},
		{0x3a2, []string{"pmpcfg2"}},
		{0xb00, []string{"mcycle"}},
		{0xb02, []string{"minstret"}},
		{0xc00, []string{"cycle", "time", "instret"}},
		{0xf11, []string{"mvendorid", "marchid", "mimpid", "mhartid", "mconfigptr"}},
	}
}

func countedCsrs() []counted {
	return []counted{
		{0x323, 3, 31, "mhpmevent"},
		{0x3b0, 0, 15, "pmpaddr"},
		{0xb03, 3, 31, "mhpmcounter"},
		{0xc03, 3, 31, "hpmcounter"},
	}
}
