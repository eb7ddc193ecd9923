package deck

import (
	"strconv"
	"strings"

	"anvil/api"
	"anvil/csr"
	"anvil/number"
)

// dataBytes is how many bytes a line of them has.
const dataBytes = 32

// page is a text that grows line by line.
type page struct {
	text strings.Builder
}

func (p *page) add(words ...string) {
	p.text.WriteString(joined(words...))
	p.text.WriteString(lineEnd)
}

// deckText is the text of a valid deck.
func deckText(d api.Deck) string {
	var p page
	p.add("anvil", "1")
	p.add("ram", strconv.Itoa(d.Ram))
	if d.Mtime != 0 {
		p.add("mtime", number.Hex(d.Mtime))
	}
	p.addCpu(csr.Proper(d.Cpu))
	for _, own := range d.Parts {
		p.addPart(own)
	}
	p.addWorlds(d.Worlds)
	return p.text.String()
}

// addCpu tells a proper Cpu.
func (p *page) addCpu(c api.Cpu) {
	for place := range cpuLines {
		if text := cpuLine(c, place); text != "" {
			p.add(text)
		}
	}
}

func (p *page) addPart(own api.Seg) {
	p.add("part", number.Hex(own.Addr), strconv.FormatUint(own.Size, 10), flagsText(own.Flags))
	for rest := own.Data; len(rest) > 0; {
		size := min(dataBytes, len(rest))
		p.add(dataWord, hexOf(rest[:size]))
		rest = rest[size:]
	}
}

// addWorlds tells worlds, those that are alike and stand one behind the other by one line.
func (p *page) addWorlds(worlds []api.World) {
	for from := 0; from < len(worlds); {
		to := from + 1
		for to < len(worlds) && alike(worlds[from], worlds[to]) {
			to++
		}
		words := []string{"step"}
		if count := to - from; count > 1 {
			words = []string{"steps", strconv.Itoa(count)}
		}
		p.add(append(words, worldWords(worlds[from])...)...)
		from = to
	}
}
