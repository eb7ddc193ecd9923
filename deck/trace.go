package deck

import (
	"strconv"

	"anvil/api"
	"anvil/csr"
	"anvil/number"
	"anvil/speak"
)

// What the lines of a trace begin with, or are.
const (
	traceHead  = "anvil trace 1"
	endRunning = "end running"
	endPassed  = "end passed"
	endFailed  = "end failed"
	outputWord = "output"
	nextMark   = "->"
	spokenMark = ";"
	fieldMark  = "="
)

// mostCode is the greatest code that the power switch keeps.
const mostCode = 65535

// canTell tells whether a trace has a text.
func canTell(t api.Trace) bool {
	for _, row := range t.Rows {
		if !canTellRow(row) {
			return false
		}
	}
	return t.Cpu == csr.Proper(t.Cpu) && canTellEnd(t.Off, t.Code)
}

func canTellRow(row api.Row) bool {
	return row.Step >= 0 &&
		kindName(row.Kind) != "" &&
		isMode(row.Mode) && isMode(row.NextMode) &&
		(row.Len == 0 || row.Len == 2 || row.Len == 4) &&
		row.Rd >= 0 && row.Rd < registers &&
		row.Mem >= 0 && row.Mem <= api.R|api.W &&
		isSize(row.Size)
}

func canTellEnd(off, code int) bool {
	switch off {
	case api.Running, api.Passed:
		return code == 0
	case api.Failed:
		return code >= 0 && code <= mostCode
	}
	return false
}

func isMode(mode int) bool { return mode == api.U || mode == api.M }

// isSize tells whether an access can have so many bytes, or there is none.
func isSize(size int) bool {
	return size == 0 || size == 1 || size == 2 || size == 4 || size == 8
}

// traceText is the text of a trace that can be told.
func traceText(t api.Trace) string {
	var p page
	p.add(traceHead)
	for _, row := range t.Rows {
		p.add(rowLine(row))
	}
	p.add(endLine(t.Off, t.Code))
	p.addCpu(t.Cpu)
	if len(t.Output) > 0 {
		p.add(outputLine(t.Output))
	}
	return p.text.String()
}

func rowLine(row api.Row) string {
	words := []string{strconv.Itoa(row.Step), kindName(row.Kind), modeName(row.Mode), number.Hex(row.Pc)}
	words = append(words, fieldWords(row)...)
	words = append(words, nextMark, modeName(row.NextMode), number.Hex(row.Next))
	if row.Len != 0 {
		words = append(words, spokenMark, speak.Print(row.Raw, row.Pc))
	}
	return joined(words...)
}

// field is a field of a row that is told if it is not 0.
type field struct {
	name  string
	isSet bool
	value string
}

func fieldWords(row api.Row) []string {
	var words []string
	for _, f := range fieldsOf(row) {
		if f.isSet {
			words = append(words, f.name+fieldMark+f.value)
		}
	}
	return words
}

// fieldsOf is those fields, in the order in which they are told.
func fieldsOf(row api.Row) []field {
	return []field{
		{"raw", row.Raw != 0, number.Hex(uint64(row.Raw))},
		{"len", row.Len != 0, strconv.Itoa(row.Len)},
		{"cause", row.Cause != 0, number.Hex(row.Cause)},
		{"tval", row.Tval != 0, number.Hex(row.Tval)},
		{"rd", row.Rd != 0, speak.Reg(row.Rd)},
		{"val", row.Val != 0, number.Hex(row.Val)},
		{"mem", row.Mem != 0, accessName(row.Mem)},
		{"addr", row.Addr != 0, number.Hex(row.Addr)},
		{"size", row.Size != 0, strconv.Itoa(row.Size)},
		{"data", row.Data != 0, number.Hex(row.Data)},
	}
}

func kindName(kind int) string {
	switch kind {
	case api.RowRetire:
		return "retire"
	case api.RowException:
		return "exception"
	case api.RowInterrupt:
		return "interrupt"
	case api.RowWait:
		return "wait"
	case api.RowOff:
		return "off"
	}
	return ""
}

// accessName is the letters of what an access does.
func accessName(mem int) string {
	switch mem {
	case api.R:
		return "r"
	case api.W:
		return "w"
	case api.R | api.W:
		return "rw"
	}
	return ""
}

func endLine(off, code int) string {
	switch off {
	case api.Passed:
		return endPassed
	case api.Failed:
		return joined(endFailed, strconv.Itoa(code))
	}
	return endRunning
}

func outputLine(output []byte) string { return joined(outputWord, quoted(output)) }
