package deck_test

import (
	"encoding/hex"
	"errors"
	"math/big"
	"regexp"
	"strings"

	"anvil/api"
	"anvil/asm"
	"anvil/csr"
	"anvil/image"
	"anvil/speak"
)

// A model of section 14.2 by patterns: a deck's lines are looked at one by one, and what goes on over several lines is gathered by looking ahead.

const (
	numberPattern = `(-?(?:0x[0-9a-fA-F]+|[0-9]+))`
	countPattern  = `(0x[0-9a-fA-F]+|[0-9]+)`
	wordPattern   = `([^ \t"]+)`
	stringPattern = `"((?:[ !#-\[\]-~]|\\["\\n]|\\x[0-9a-fA-F]{2})*)"`
)

// line is the pattern of a line with these words.
func line(words ...string) *regexp.Regexp {
	return regexp.MustCompile(`^[ \t]*` + strings.Join(words, `[ \t]+`) + `[ \t]*$`)
}

var (
	commentLine = regexp.MustCompile(`^[ \t]*(#(?s:.*))?$`)
	headLine    = line("anvil", "1")
	ramLine     = line("ram", countPattern)
	mtimeLine   = line("mtime", numberPattern)
	pcLine      = line("pc", numberPattern)
	modeLine    = line("mode", "([mu])")
	waitingLine = line("waiting")
	regLine     = line("reg", wordPattern, numberPattern)
	csrLine     = line("csr", wordPattern, numberPattern)
	pmpLine     = line("pmp", countPattern, numberPattern, numberPattern)
	resLine     = line("res", numberPattern, numberPattern)
	partLine    = line("part", numberPattern, countPattern, `(-|r|w|x|rw|rx|wx|rwx)`)
	dataLine    = line("data", `((?:[0-9a-fA-F]{2})+)`)
	nearlyData  = regexp.MustCompile(`^[ \t]*data([ \t"]|$)`)
	elfLine     = line("elf")
	sourceLine  = line("source")
	endLine     = line("end")
	worldLine   = regexp.MustCompile(`^[ \t]*(?:step|steps[ \t]+` + countPattern + `)((?:[ \t]+(?:tick|ext|soft|input[ \t]+` + stringPattern + `))*)[ \t]*$`)
	worldWord   = regexp.MustCompile(`[ \t]+(?:(tick)|(ext)|(soft)|(input)[ \t]+` + stringPattern + `)`)
	stringItem  = regexp.MustCompile(`\\x..|\\.|.`)
)

type model struct {
	lines []string
	deck  api.Deck
}

// modelParse is what Parse answers.
func modelParse(text string) (api.Deck, *api.Fault) {
	if len(text) > maxText {
		return api.Deck{}, &api.Fault{Why: api.ErrText}
	}
	m := model{lines: strings.Split(text, "\n")}
	if last := len(m.lines) - 1; m.lines[last] == "" {
		m.lines = m.lines[:last]
	}
	m.deck.Cpu.Pc, m.deck.Cpu.Mode = ram, api.M
	told := 0
	for i := 0; i < len(m.lines); {
		if len(m.lines[i]) > maxLine {
			return api.Deck{}, &api.Fault{Line: i + 1, Why: api.ErrLong}
		}
		if commentLine.MatchString(m.lines[i]) {
			i++
			continue
		}
		next, f := m.group(i, told)
		if f != nil {
			return api.Deck{}, f
		}
		told++
		i = next
	}
	if told < 2 {
		return api.Deck{}, &api.Fault{Line: len(m.lines) + 1, Why: api.ErrLine}
	}
	m.deck.Cpu = csr.Proper(m.deck.Cpu)
	return m.deck, nil
}

// group reads line i and those that belong to it, and tells the next one.
func (m *model) group(i, told int) (int, *api.Fault) {
	text := m.lines[i]
	switch {
	case told >= 2 && len(m.deck.Worlds) == 0 && elfLine.MatchString(text):
		return m.elf(i)
	case told >= 2 && len(m.deck.Worlds) == 0 && sourceLine.MatchString(text):
		return m.source(i)
	}
	why := api.ErrLine
	switch {
	case told == 0 && headLine.MatchString(text):
		why = api.OK
	case told == 1:
		why = m.ram(text)
	case told >= 2 && worldLine.MatchString(text):
		why = m.world(text)
	case told >= 2 && len(m.deck.Worlds) == 0:
		why = m.setting(text)
	}
	if why != api.OK {
		return 0, &api.Fault{Line: i + 1, Why: why}
	}
	if told >= 2 && partLine.MatchString(text) {
		return m.data(i + 1)
	}
	return i + 1, nil
}

func (m *model) ram(text string) api.Errno {
	v, is := numbers(ramLine, text)
	switch {
	case !is:
		return api.ErrLine
	case v[0] < 8 || v[0] > maxRam || v[0]%8 != 0:
		return api.ErrSetting
	}
	m.deck.Ram = int(v[0])
	return api.OK
}

// numbers is the values of a pattern's groups, all of which are numbers but those that are none by their form.
func numbers(pattern *regexp.Regexp, text string) ([]uint64, bool) {
	found := pattern.FindStringSubmatch(text)
	if found == nil {
		return nil, false
	}
	var values []uint64
	for i, own := range found[1:] {
		if strings.Contains(pattern.String(), wordPattern) && i == 0 || pattern == partLine && i == 2 {
			values = append(values, 0)
			continue
		}
		v, fine := new(big.Int).SetString(strings.ReplaceAll(own, "0x", ""), map[bool]int{true: 16, false: 10}[strings.Contains(own, "0x")])
		low, high := big.NewInt(-1<<63), new(big.Int).Lsh(big.NewInt(1), 64)
		if !fine || v.Cmp(low) < 0 || v.Cmp(high) >= 0 {
			return nil, false
		}
		values = append(values, new(big.Int).And(v, new(big.Int).Sub(high, big.NewInt(1))).Uint64())
	}
	return values, true
}

func (m *model) setting(text string) api.Errno {
	c := &m.deck.Cpu
	if v, is := numbers(mtimeLine, text); is {
		m.deck.Mtime = v[0]
		return api.OK
	}
	if v, is := numbers(pcLine, text); is {
		c.Pc = v[0]
		return api.OK
	}
	if own := modeLine.FindStringSubmatch(text); own != nil {
		c.Mode = 3 * strings.Index("um", own[1])
		return api.OK
	}
	if waitingLine.MatchString(text) {
		c.Waiting = true
		return api.OK
	}
	if v, is := numbers(pmpLine, text); is {
		if v[0] > 15 {
			return api.ErrSetting
		}
		c.Pmp.Cfg[v[0]], c.Pmp.Addr[v[0]] = byte(v[1]), v[2]
		return api.OK
	}
	if v, is := numbers(resLine, text); is {
		if v[1] != 4 && v[1] != 8 {
			return api.ErrSetting
		}
		c.Res = api.Res{Valid: true, Addr: v[0], Size: int(v[1])}
		return api.OK
	}
	return m.named(text)
}

// named is a line with a name, or with a part's letters.
func (m *model) named(text string) api.Errno {
	if v, is := numbers(regLine, text); is {
		n, known := speak.RegOf(regLine.FindStringSubmatch(text)[1])
		if !known {
			return api.ErrName
		}
		m.deck.Cpu.X[n] = v[1]
		return api.OK
	}
	if v, is := numbers(csrLine, text); is {
		n, known := speak.CsrOf(csrLine.FindStringSubmatch(text)[1])
		for _, own := range csrsOf() {
			if known && own.number == n {
				*own.at(&m.deck.Cpu) = v[1]
				return api.OK
			}
		}
		return api.ErrName
	}
	if v, is := numbers(partLine, text); is {
		letters := partLine.FindStringSubmatch(text)[3]
		p := api.Seg{Addr: v[0], Size: v[1]}
		for i, letter := range "rwx" {
			if strings.ContainsRune(letters, letter) {
				p.Flags += 1 << i
			}
		}
		if !m.holds(p) {
			return api.ErrSetting
		}
		if len(m.deck.Parts) == maxParts {
			return api.ErrMany
		}
		m.deck.Parts = append(m.deck.Parts, p)
		return api.OK
	}
	return api.ErrLine
}

// holds tells whether a part lies in RAM, by numbers that have no bound.
func (m *model) holds(p api.Seg) bool {
	from, size := new(big.Int).SetUint64(p.Addr), new(big.Int).SetUint64(p.Size)
	return size.Cmp(big.NewInt(int64(m.deck.Ram))) <= 0 && from.Cmp(big.NewInt(ram)) >= 0 &&
		from.Add(from, size).Cmp(big.NewInt(ram+int64(m.deck.Ram))) <= 0
}

// data gathers the data lines of the last part, from line i on.
func (m *model) data(i int) (int, *api.Fault) {
	p := &m.deck.Parts[len(m.deck.Parts)-1]
	for ; i < len(m.lines) && m.goesOn(i); i++ {
		b, why := m.bytes(i)
		if why == api.OK && uint64(len(p.Data)+len(b)) > p.Size {
			why = api.ErrSetting
		}
		if why != api.OK {
			return 0, &api.Fault{Line: i + 1, Why: why}
		}
		p.Data = append(p.Data, b...)
	}
	return i, nil
}

// goesOn tells whether line i is a comment line or nearly a data line.
func (m *model) goesOn(i int) bool {
	return commentLine.MatchString(m.lines[i]) || nearlyData.MatchString(m.lines[i])
}

// bytes is the bytes of a line that goes on.
func (m *model) bytes(i int) ([]byte, api.Errno) {
	found := dataLine.FindStringSubmatch(m.lines[i])
	switch {
	case len(m.lines[i]) > maxLine:
		return nil, api.ErrLong
	case commentLine.MatchString(m.lines[i]):
		return nil, api.OK
	case found == nil:
		return nil, api.ErrLine
	}
	b, _ := hex.DecodeString(found[1])
	return b, api.OK
}

func (m *model) elf(begun int) (int, *api.Fault) {
	var all []byte
	i := begun + 1
	for ; i < len(m.lines) && m.goesOn(i); i++ {
		b, why := m.bytes(i)
		if why != api.OK {
			return 0, &api.Fault{Line: i + 1, Why: why}
		}
		all = append(all, b...)
	}
	im, err := image.Read(all)
	return i, m.load(im, err, begun+1)
}

func (m *model) source(begun int) (int, *api.Fault) {
	for i := begun + 1; i < len(m.lines); i++ {
		if len(m.lines[i]) > maxLine {
			return 0, &api.Fault{Line: i + 1, Why: api.ErrLong}
		}
		if endLine.MatchString(m.lines[i]) {
			src := ""
			for _, l := range m.lines[begun+1 : i] {
				src += l + "\n"
			}
			im, err := asm.Assemble(src)
			return i + 1, m.load(im, err, begun+1)
		}
	}
	return 0, &api.Fault{Line: len(m.lines) + 1, Why: api.ErrLine}
}

// load adds a program that begins at a line.
func (m *model) load(im api.Image, err error, begun int) *api.Fault {
	if err != nil {
		var f *api.Fault
		errors.As(err, &f)
		return &api.Fault{Line: begun + f.Line, At: f.At, Why: f.Why}
	}
	if len(m.deck.Parts)+len(im.Segs) > maxParts {
		return &api.Fault{Line: begun, Why: api.ErrMany}
	}
	for _, p := range im.Segs {
		if !m.holds(p) {
			return &api.Fault{Line: begun, Why: api.ErrSetting}
		}
		m.deck.Parts = append(m.deck.Parts, p)
	}
	m.deck.Cpu.Pc = im.Entry
	return nil
}

func (m *model) world(text string) api.Errno {
	found := worldLine.FindStringSubmatch(text)
	count := uint64(1)
	if found[1] != "" {
		v, is := numbers(line("", countPattern), " "+found[1])
		if !is {
			return api.ErrLine
		}
		count = v[0]
	}
	var w api.World
	seen := [5]int{}
	for _, own := range worldWord.FindAllStringSubmatch(found[2], -1) {
		for i := 1; i <= 4; i++ {
			if own[i] != "" {
				seen[i]++
			}
			if seen[i] > 1 {
				return api.ErrLine
			}
		}
		if own[4] != "" {
			w.Input = unescaped(own[5])
		}
	}
	w.Tick, w.Ext, w.Soft = seen[1] > 0, seen[2] > 0, seen[3] > 0
	if count == 0 || len(w.Input) > maxInput {
		return api.ErrSetting
	}
	if count > maxSteps || int(count)+len(m.deck.Worlds) > maxSteps {
		return api.ErrMany
	}
	for range count {
		m.deck.Worlds = append(m.deck.Worlds, w)
	}
	return api.OK
}

// unescaped is the bytes that stand between a string's quotes.
func unescaped(text string) []byte {
	return []byte(stringItem.ReplaceAllStringFunc(text, func(item string) string {
		switch {
		case item == `\n`:
			return "\n"
		case len(item) == 4:
			b, _ := hex.DecodeString(item[2:])
			return string(b)
		}
		return item[len(item)-1:]
	}))
}
