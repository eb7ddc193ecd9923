package deck

import (
	"slices"
	"strings"

	"anvil/api"
	"anvil/csr"
	"anvil/number"
	"anvil/speak"
)

// What a trace's next line may be.
const (
	traceHeadNext = iota
	rowNext
	cpuNext
	noLineNext
)

// How many words a row's line has ahead of its fields, and behind the mark that ends them.
const (
	rowWords  = 4
	nextWords = 2
)

// traceReader is a trace on its way from its text. Each line is read leniently, and what it says is told again: where that is another line, no trace has such a one. So what cannot be read needs no refusal of its own: nothing tells it. place is the place, among the Cpu's lines, of the last one that was read.
type traceReader struct {
	trace api.Trace
	next  int
	place int
}

func newTraceReader() *traceReader {
	r := &traceReader{place: pcLine - 1}
	r.trace.Cpu = csr.Proper(api.Cpu{})
	return r
}

// isWhole tells whether the lines that were read are a trace's text. The Cpu's lines that come behind its mode may all be left out.
func (r *traceReader) isWhole() bool {
	return r.next == noLineNext || r.next == cpuNext && r.place >= modeLine
}

// take reads a line; false: no trace goes on like this.
func (r *traceReader) take(text string) bool {
	switch r.next {
	case traceHeadNext:
		r.next = rowNext
		return text == traceHead
	case rowNext:
		return r.takeEnd(text) || r.takeRow(text)
	case cpuNext:
		return r.takeCpu(text) || r.takeOutput(text)
	}
	return false
}

func (r *traceReader) takeRow(text string) bool {
	row, is := rowOf(text)
	if !is || !canTellRow(row) || rowLine(row) != text {
		return false
	}
	r.trace.Rows = append(r.trace.Rows, row)
	return true
}

func (r *traceReader) takeEnd(text string) bool {
	off, code := endOf(text)
	if !canTellEnd(off, code) || endLine(off, code) != text {
		return false
	}
	r.trace.Off, r.trace.Code = off, code
	r.next = cpuNext
	return true
}

// takeCpu reads one of the Cpu's lines. No field of a Cpu hangs on another one in what is proper, so that each line can be looked at by itself.
func (r *traceReader) takeCpu(text string) bool {
	words, is := wordsOf(text)
	if !is || len(words) == 0 {
		return false
	}
	c := r.trace.Cpu
	place, why := setCpu(&c, words[0].text, words[1:])
	if why != api.OK || !r.mayBe(place) || c != csr.Proper(c) || cpuLine(c, place) != text {
		return false
	}
	r.trace.Cpu, r.place = c, place
	return true
}

// mayBe tells whether the Cpu's line at this place may come next: of its lines only those behind its mode may be left out.
func (r *traceReader) mayBe(place int) bool {
	if r.place < modeLine {
		return place == r.place+1
	}
	return place > r.place
}

func (r *traceReader) takeOutput(text string) bool {
	words, is := wordsOf(text)
	if !is || len(words) != 2 || !r.isWhole() {
		return false
	}
	output := []byte(words[1].text)
	if len(output) == 0 || outputLine(output) != text {
		return false
	}
	r.trace.Output = output
	r.next = noLineNext
	return true
}

// endOf is how the play ended, as a line says it.
func endOf(text string) (off, code int) {
	if text == endPassed {
		return api.Passed, 0
	}
	if digits, failed := strings.CutPrefix(text, endFailed+" "); failed {
		value, _ := number.Count(digits)
		return api.Failed, int(value)
	}
	return api.Running, 0
}

// rowOf is the row that a line says; false: it has too few words. The instruction's text behind it says nothing more.
func rowOf(text string) (api.Row, bool) {
	words := strings.Split(text, " ")
	mark := slices.Index(words, nextMark)
	if mark < rowWords || len(words)-mark <= nextWords {
		return api.Row{}, false
	}
	var row api.Row
	step, _ := number.Count(words[0])
	row.Step = int(step)
	row.Kind = kindOf(words[1])
	row.Mode, _ = modeOf(words[2])
	row.Pc, _ = number.Count(words[3])
	for _, w := range words[rowWords:mark] {
		setField(&row, w)
	}
	row.NextMode, _ = modeOf(words[mark+1])
	row.Next, _ = number.Count(words[mark+2])
	return row, true
}

// setField does what one word of a row's fields says.
func setField(row *api.Row, text string) {
	name, own, _ := strings.Cut(text, fieldMark)
	value, _ := number.Count(own)
	switch name {
	case "raw":
		row.Raw = uint32(value)
	case "len":
		row.Len = int(value)
	case "cause":
		row.Cause = value
	case "tval":
		row.Tval = value
	case "rd":
		row.Rd, _ = speak.RegOf(own)
	case "val":
		row.Val = value
	case "mem":
		row.Mem = accessOf(own)
	case "addr":
		row.Addr = value
	case "size":
		row.Size = int(value)
	case "data":
		row.Data = value
	}
}

func kindOf(name string) int {
	for kind := api.RowRetire; kind <= api.RowOff; kind++ {
		if name == kindName(kind) {
			return kind
		}
	}
	return 0
}

func accessOf(name string) int {
	for mem := api.R; mem <= api.R|api.W; mem++ {
		if name == accessName(mem) {
			return mem
		}
	}
	return 0
}
