package gdb_test

import (
	"encoding/hex"
	"fmt"
	"math/big"
	"regexp"
	"slices"
	"strings"
	"sync"

	"anvil/api"
	"anvil/board"
	"anvil/csr"
)

// model is a second stub, written from the chapter alone: it cuts a talk into packets with the whole of it at hand, asks forms of expressions, goes through bytes one by one where the layer works with sums, and asks its board for everything behind each step.
type model struct {
	board  *board.Board
	worlds []api.World
	steps  int
	stops  []mark
	acks   bool
	gone   bool
	last   string
	rest   string
}

type mark struct {
	kind  int
	at, k uint64
}

func modelOf(d api.Deck) *model {
	b, _ := board.New(d)
	return &model{board: b, worlds: d.Worlds, acks: true}
}

// hear is what is sent for the bytes that came.
func (m *model) hear(in string) string {
	m.rest += in
	sent := ""
	for !m.gone {
		first := strings.IndexAny(m.rest, "$-")
		if first < 0 {
			m.rest = ""
			break
		}
		m.rest = m.rest[first:]
		if m.rest[0] == '-' {
			if m.acks {
				sent += m.last
			}
			m.rest = m.rest[1:]
			continue
		}
		hash := strings.IndexByte(m.rest, '#')
		if hash < 0 || len(m.rest) < hash+3 {
			break
		}
		body, digits := m.rest[strings.LastIndexByte(m.rest[:hash], '$'):hash][1:], m.rest[hash+1:hash+3]
		m.rest = m.rest[hash+3:]
		sent += m.whole(body, digits)
	}
	return sent
}

// whole is what is sent for one packet.
func (m *model) whole(body, digits string) string {
	ack := func(s string) string {
		if m.acks {
			return s
		}
		return ""
	}
	right := framed(body)[len(body)+2:]
	if digits != right && digits != strings.ToUpper(right) && digits != right[:1]+strings.ToUpper(right[1:]) && digits != strings.ToUpper(right[:1])+right[1:] {
		return ack("-")
	}
	plus := ack("+")
	payload, can := meant(body)
	answer, is := "E03", true
	if can && len(payload) <= maxPacket {
		answer, is = m.answer(payload)
	}
	if !is {
		return plus
	}
	m.last = packet(answer)
	return plus + m.last
}

// meant is what a body stands for.
func meant(body string) (string, bool) {
	var all []byte
	for body != "" {
		ahead, behind, is := strings.Cut(body, "}")
		all = append(all, ahead...)
		if is && behind == "" {
			return "", false
		}
		if body = behind; is {
			all, body = append(all, behind[0]^32), behind[1:]
		}
	}
	return string(all), true
}

// parts is a payload's parts by an expression, in which N is a number and D a digit; nil: it is not of that form.
func parts(form, payload string) []string {
	written := strings.NewReplacer("N", "([0-9a-fA-F]{1,16})", "D", "[0-9a-fA-F]").Replace(form)
	of, is := forms.Load(form)
	if !is {
		of, _ = forms.LoadOrStore(form, regexp.MustCompile("(?s)^"+written+"$"))
	}
	return of.(*regexp.Regexp).FindStringSubmatch(payload)
}

// forms is the expressions that were made.
var forms sync.Map

func numeral(digits string) uint64 {
	n, _ := new(big.Int).SetString(digits, 16)
	return n.Uint64()
}

// answer is the chapter's table, row by row; false: there is none.
func (m *model) answer(payload string) (string, bool) {
	plain := map[string]string{
		"vCont?": "vCont;c;s", "qC": "QC1", "qfThreadInfo": "m1", "qsThreadInfo": "l", "qAttached": "1", "": "",
	}
	if answer, is := plain[payload]; is {
		return answer, true
	}
	switch payload {
	case "?":
		return m.state(), true
	case "g":
		return m.all(), true
	case "vCont;s", "vCont;s:1":
		return m.run(nil, true), true
	case "vCont;c", "vCont;c:1":
		return m.run(nil, false), true
	case "QStartNoAckMode":
		m.acks = false
		return "OK", true
	case "D":
		m.gone = true
		return "OK", true
	case "k":
		m.gone = true
		return "", false
	}
	if strings.HasPrefix(payload, "qSupported") {
		return "PacketSize=3e8;QStartNoAckMode+", true
	}
	if payload[0] == 'H' || payload[0] == 'T' {
		return "OK", true
	}
	return m.formed(payload), true
}

// formed is the rows whose form can be wrong.
func (m *model) formed(payload string) string {
	letters := map[byte]string{
		'G': "G(D{528})", 'p': "pN", 'P': "PN=(D{16})", 'm': "mN,N", 'M': "MN,N:((?:DD)*)", 'X': "XN,N:(.*)",
		'Z': "Z([0-9]),N,N", 'z': "z([0-9]),N,N", 's': "sN?", 'c': "cN?",
	}
	form, is := letters[payload[0]]
	if !is {
		return ""
	}
	p := parts(form, payload)
	if p == nil {
		return "E01"
	}
	switch payload[0] {
	case 'G':
		return m.setAll(p[1])
	case 'p':
		if v, can := m.read(numeral(p[1])); can {
			return word(v)
		}
		return "E02"
	case 'P':
		return m.set(numeral(p[1]), p[2])
	case 'm':
		return m.look(numeral(p[1]), numeral(p[2]))
	case 'M', 'X':
		data := p[3]
		if payload[0] == 'M' {
			b, _ := hex.DecodeString(p[3])
			data = string(b)
		}
		return m.put(numeral(p[1]), numeral(p[2]), data)
	case 'Z', 'z':
		return m.stop(payload[0] == 'Z', mark{int(p[1][0] - '0'), numeral(p[2]), numeral(p[3])})
	}
	if p[1] == "" {
		return m.run(nil, payload[0] == 's')
	}
	at := numeral(p[1])
	return m.run(&at, payload[0] == 's')
}

func (m *model) state() string {
	switch b := m.board.Whole().Bus; b.Off {
	case api.Passed:
		return "W00"
	case api.Failed:
		return fmt.Sprintf("W%02x", b.Code%256)
	}
	return "S05"
}

func (m *model) all() string {
	text := ""
	c := m.board.Whole().Cpu
	for i := range 32 {
		text += word(c.X[i])
	}
	return text + word(c.Pc)
}

// value is what a register's digits tell.
func value(digits string) uint64 {
	b, _ := hex.DecodeString(digits)
	slices.Reverse(b)
	return new(big.Int).SetBytes(b).Uint64()
}

func (m *model) setAll(digits string) string {
	c := m.board.Whole().Cpu
	for i := 1; i < 32; i++ {
		c.X[i] = value(digits[16*i : 16*i+16])
	}
	c.Pc = value(digits[512:]) / 2 * 2
	m.board.Set(c)
	return "OK"
}

// mip is what the section "The CSRs" says of it.
func mip(b api.Bus) uint64 {
	v := uint64(0)
	if b.Msip == 1 || b.Soft {
		v |= 1 << 3
	}
	if b.Mtime >= b.Mtimecmp {
		v |= 1 << 7
	}
	if b.Ext || b.Ier&1 != 0 && len(b.Input) > 0 {
		v |= 1 << 11
	}
	return v
}

func (m *model) read(n uint64) (uint64, bool) {
	w := m.board.Whole()
	if n <= 31 {
		return w.Cpu.X[n], true
	}
	if n == 32 {
		return w.Cpu.Pc, true
	}
	if n < 65 || n > 65+0xfff {
		return 0, false
	}
	w.Cpu.Mode = api.M
	return csr.Read(w.Cpu, mip(w.Bus), w.Bus.Mtime, int(n)-65)
}

func (m *model) set(n uint64, digits string) string {
	if _, can := m.read(n); !can {
		return "E02"
	}
	c := m.board.Whole().Cpu
	switch {
	case n == 0:
	case n <= 31:
		c.X[n] = value(digits)
	case n == 32:
		c.Pc = value(digits) / 2 * 2
	default:
		mode := c.Mode
		c.Mode = api.M
		after, is := csr.Write(c, int(n)-65, value(digits))
		if !is {
			return "E02"
		}
		c = after
		c.Mode = mode
	}
	m.board.Set(c)
	return "OK"
}

// isRam tells whether each of some bytes is RAM; none of them wraps round.
func (m *model) isRam(at, n uint64) bool {
	end := ram + uint64(len(m.board.Whole().Bus.Ram))
	for i := range n {
		if at+i < at || at+i < ram || at+i >= end {
			return false
		}
	}
	return true
}

func (m *model) look(at, n uint64) string {
	if n > maxPacket/2 || !m.isRam(at, n) {
		return "E02"
	}
	text := ""
	for i := range n {
		text += fmt.Sprintf("%02x", m.board.Whole().Bus.Ram[at+i-ram])
	}
	return text
}

func (m *model) put(at, n uint64, data string) string {
	if uint64(len(data)) != n {
		return "E01"
	}
	if !m.isRam(at, n) {
		return "E02"
	}
	for i := range len(data) {
		m.board.Poke(at+uint64(i), []byte{data[i]})
	}
	return "OK"
}

func (m *model) stop(sets bool, one mark) string {
	if one.kind > 4 {
		return ""
	}
	others := slices.DeleteFunc(slices.Clone(m.stops), func(s mark) bool { return s == one })
	if !sets {
		m.stops = others
		return "OK"
	}
	if len(others) >= maxStops || one.kind >= 2 && (one.k < 1 || one.k > 8) {
		return "E02"
	}
	if len(others) == len(m.stops) {
		m.stops = append(m.stops, one)
	}
	return "OK"
}

// run is s and c.
func (m *model) run(at *uint64, single bool) string {
	if m.board.Whole().Bus.Off != api.Running {
		return m.state()
	}
	if at != nil {
		c := m.board.Whole().Cpu
		c.Pc = *at / 2 * 2
		m.board.Set(c)
	}
	for made := 1; ; made++ {
		row := m.step()
		w := m.board.Whole()
		if single || w.Bus.Off != api.Running {
			return m.state()
		}
		for _, s := range m.stops {
			if met(s, row) {
				return fmt.Sprintf("T05%swatch:%x;", []string{"", "r", "a"}[s.kind-2], s.at)
			}
		}
		for _, s := range m.stops {
			if s.kind < 2 && s.at == w.Cpu.Pc && !w.Cpu.Waiting {
				return "S05"
			}
		}
		if made == maxRun {
			return "S02"
		}
	}
}

func (m *model) step() api.Row {
	var w api.World
	if m.steps < len(m.worlds) {
		w = m.worlds[m.steps]
	}
	m.steps++
	return m.board.Step(w)
}

// met tells whether one byte of a watch is one of the row's.
func met(s mark, row api.Row) bool {
	if s.kind < 2 || row.Mem == 0 || s.kind == 2 && row.Mem&api.W == 0 || s.kind == 3 && row.Mem&api.R == 0 {
		return false
	}
	for i := range s.k {
		for j := range row.Size {
			if s.at+i == row.Addr+uint64(j) {
				return true
			}
		}
	}
	return false
}
