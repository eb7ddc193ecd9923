package deck_test

import (
	"fmt"
	"math/rand/v2"
	"regexp"
	"slices"
	"strconv"
	"strings"

	"anvil/api"
	"anvil/csr"
	"anvil/speak"
)

// A model of section 14.3: traces are told by formats, and a text's first line at fault is found by patterns, without a trace being made.

// modelTrace is the text of a trace that can be told.
func modelTrace(t api.Trace) string {
	text := "anvil trace 1\n"
	for _, row := range t.Rows {
		text += modelRow(row) + "\n"
	}
	switch t.Off {
	case 0:
		text += "end running\n"
	case 1:
		text += "end passed\n"
	case 2:
		text += fmt.Sprintf("end failed %d\n", t.Code)
	}
	text += modelCpu(t.Cpu)
	if len(t.Output) > 0 {
		text += "output " + modelString(t.Output) + "\n"
	}
	return text
}

func modelRow(row api.Row) string {
	text := fmt.Sprintf("%d %s %c %#x", row.Step, []string{"", "retire", "exception", "interrupt", "wait", "off"}[row.Kind], "u--m"[row.Mode], row.Pc)
	hex := func(name string, v uint64) {
		if v != 0 {
			text += fmt.Sprintf(" %s=%#x", name, v)
		}
	}
	other := func(name string, v int, told string) {
		if v != 0 {
			text += fmt.Sprintf(" %s=%s", name, told)
		}
	}
	hex("raw", uint64(row.Raw))
	other("len", row.Len, strconv.Itoa(row.Len))
	hex("cause", row.Cause)
	hex("tval", row.Tval)
	other("rd", row.Rd, speak.Reg(row.Rd))
	hex("val", row.Val)
	other("mem", row.Mem, []string{"", "r", "w", "rw"}[row.Mem])
	hex("addr", row.Addr)
	other("size", row.Size, strconv.Itoa(row.Size))
	hex("data", row.Data)
	text += fmt.Sprintf(" -> %c %#x", "u--m"[row.NextMode], row.Next)
	if row.Len != 0 {
		text += " ; " + speak.Print(row.Raw, row.Pc)
	}
	return text
}

const (
	hexPattern  = `(0x(?:0|[1-9a-f][0-9a-f]{0,15}))`
	somePattern = `(0x[1-9a-f][0-9a-f]{0,15})`
	decPattern  = `(0|[1-9][0-9]*)`
)

var (
	rowPattern = regexp.MustCompile(`^` + decPattern + ` (?:retire|exception|interrupt|wait|off) [mu] ` + hexPattern +
		`(?: raw=(0x[1-9a-f][0-9a-f]{0,7}))?(?: len=([24]))?(?: cause=` + somePattern + `)?(?: tval=` + somePattern +
		`)?(?: rd=([a-z0-9]+))?(?: val=` + somePattern + `)?(?: mem=(?:r|w|rw))?(?: addr=` + somePattern + `)?(?: size=[1248])?(?: data=` + somePattern +
		`)? -> [mu] ` + hexPattern + `(?: ; ((?s:.*)))?$`)
	endPattern    = regexp.MustCompile(`^end (?:running|passed|failed ` + decPattern + `)$`)
	outputPattern = regexp.MustCompile(`^output "(?:[ !#-\[\]-~]|\\["\\n]|\\x(?:0[0-9b-f]|1[0-9a-f]|7f|[89a-f][0-9a-f]))+"$`)
	pcPattern     = regexp.MustCompile(`^pc ` + hexPattern + `$`)
	regPattern    = regexp.MustCompile(`^reg ([a-z0-9]+) ` + somePattern + `$`)
	csrPattern    = regexp.MustCompile(`^csr ([a-z]+) ` + hexPattern + `$`)
	pmpPattern    = regexp.MustCompile(`^pmp ` + decPattern + ` ` + hexPattern + ` ` + hexPattern + `$`)
	resPattern    = regexp.MustCompile(`^res ` + hexPattern + ` ([48])$`)
)

// hexValue is the value of hex digits that fit.
func hexValue(text string) uint64 {
	v, err := strconv.ParseUint(strings.TrimPrefix(text, "0x"), 16, 64)
	if err != nil {
		panic(err)
	}
	return v
}

// modelFault is the number of the line that ParseTrace refuses; 0: the text is a trace's.
func modelFault(text string) int {
	stage := -1 // ahead of the head; then 0 among the rows, 1 behind the end, and 2 more than the rank of the Cpu's last line
	lines := strings.SplitAfter(text, "\n")
	if last := len(lines) - 1; lines[last] == "" {
		lines = lines[:last]
	}
	for i, own := range lines {
		body, ended := strings.CutSuffix(own, "\n")
		next, is := modelNext(stage, body)
		if !ended || !is {
			return i + 1
		}
		stage = next
	}
	if stage < 3 {
		return len(lines) + 1
	}
	return 0
}

// lastRank is the rank of a trace's output, behind those of all the Cpu's lines.
const lastRank = 100

// modelNext is the stage behind a line.
func modelNext(stage int, body string) (int, bool) {
	switch {
	case stage == -1:
		return 0, body == "anvil trace 1"
	case stage == 0:
		if own := endPattern.FindStringSubmatch(body); own != nil {
			code, err := strconv.Atoi("0" + own[1])
			return 1, err == nil && code <= 65535
		}
		return 0, modelIsRow(body)
	}
	rank, is := modelRank(body)
	if stage < 3 { // the Pc, and then the mode, must be told
		return stage + 1, is && rank == stage-1
	}
	return rank + 2, is && rank+2 > stage
}

func modelIsRow(body string) bool {
	own := rowPattern.FindStringSubmatch(body)
	if own == nil {
		return false
	}
	if _, err := strconv.ParseInt(own[1], 10, 64); err != nil {
		return false
	}
	if own[7] != "" && (own[7] == "zero" || !slices.Contains(registerNames(), own[7])) {
		return false
	}
	said := strings.Contains(body, " ; ")
	if own[4] == "" {
		return !said
	}
	raw := uint64(0)
	if own[3] != "" {
		raw = hexValue(own[3])
	}
	return said && own[len(own)-1] == speak.Print(uint32(raw), hexValue(own[2]))
}

func registerNames() []string {
	var names []string
	for n := range 32 {
		names = append(names, speak.Reg(n))
	}
	return names
}

// modelRank is the place of one of the Cpu's lines, or of the output, in the order of all of them; false: no trace has such a line.
func modelRank(body string) (int, bool) {
	if own := pcPattern.FindStringSubmatch(body); own != nil {
		return 0, hexValue(own[1])%2 == 0
	}
	switch body {
	case "mode m", "mode u":
		return 1, true
	case "waiting":
		return 2, true
	}
	if own := regPattern.FindStringSubmatch(body); own != nil {
		n := slices.Index(registerNames(), own[1])
		return 3 + n, n > 0
	}
	if own := csrPattern.FindStringSubmatch(body); own != nil {
		i := slices.Index(csrNames, own[1])
		if i < 0 {
			return 0, false
		}
		v, bits := hexValue(own[2]), csrsOf()[i].bits
		if i == 0 {
			mpp := v >> 11 & 3
			return 40, v != uxl && v&uxl != 0 && v&^bits == 0 && (mpp == 0 || mpp == 3)
		}
		return 40 + i, v != 0 && v&^bits == 0
	}
	if own := pmpPattern.FindStringSubmatch(body); own != nil {
		i, err := strconv.Atoi(own[1])
		cfg, addr := hexValue(own[2]), hexValue(own[3])
		return 60 + i, err == nil && i <= 15 && cfg|addr != 0 && cfg&^0x9f == 0 && cfg&3 != 2 && addr < 1<<54
	}
	if own := resPattern.FindStringSubmatch(body); own != nil {
		return 80, hexValue(own[1])%uint64(own[2][0]-'0') == 0
	}
	return lastRank, outputPattern.MatchString(body)
}

// anyRow is any row that can be told.
func anyRow(r *rand.Rand) api.Row {
	row := api.Row{
		Step: int(r.Uint64() >> (1 + r.IntN(63))), Kind: 1 + r.IntN(5), Mode: 3 * r.IntN(2), NextMode: 3 * r.IntN(2), Pc: r.Uint64() >> r.IntN(64), Next: sparse(r),
		Raw: uint32(r.Uint64()>>r.IntN(64)) * uint32(r.IntN(3)), Len: 2 * r.IntN(3), Cause: sparse(r), Tval: sparse(r), Rd: r.IntN(32) * r.IntN(2), Val: sparse(r),
		Mem: r.IntN(4), Addr: sparse(r), Size: 1 << r.IntN(4) * r.IntN(2), Data: sparse(r),
	}
	return row
}

// anyTrace is any trace that can be told.
func anyTrace(r *rand.Rand) api.Trace {
	t := api.Trace{Cpu: csr.Proper(anyCpu(r)), Off: r.IntN(3)}
	if t.Off == api.Failed {
		t.Code = r.IntN(65536)
	}
	for range r.IntN(4) {
		t.Rows = append(t.Rows, anyRow(r))
	}
	for range r.IntN(8) * r.IntN(2) {
		t.Output = append(t.Output, byte(r.Uint32()))
	}
	return t
}
