package decode_test

import (
	"strconv"
	"strings"
	"testing"

	"anvil/api"
)

// The model of section 5.3: its table, row by row, in its own words.

// parcels is a row: when it holds, its number (so many bits, if the highest is a sign), and what it stands for, each register by where it comes from.
type parcels struct {
	q, f         int
	when, number string
	signed       int
	op           int
	rd, rs1, rs2 string
}

// Numbers that several rows have.
const (
	six    = "5 from 12, 4:0 from 6:2"
	word   = "5:3 from 12:10, 2 from 6, 6 from 5"
	double = "5:3 from 12:10, 7:6 from 6:5"
	space  = "5:4 from 12:11, 9:6 from 10:7, 2 from 6, 3 from 5"
	stack  = "9 from 12, 4 from 6, 6 from 5, 8:7 from 4:3, 5 from 2"
	upper  = "17 from 12, 16:12 from 6:2"
	jump   = "11 from 12, 4 from 11, 9:8 from 10:9, 10 from 8, 6 from 7, 7 from 6, 3:1 from 5:3, 5 from 2"
	branch = "8 from 12, 4:3 from 11:10, 7:6 from 6:5, 2:1 from 4:3, 5 from 2"
)

var allParcels = []parcels{
	{0, 0, "n", space, 0, api.OpAddi, "t'", "2", ""},
	{0, 2, "", word, 0, api.OpLw, "t'", "r'", ""},
	{0, 3, "", double, 0, api.OpLd, "t'", "r'", ""},
	{0, 6, "", word, 0, api.OpSw, "", "r'", "t'"},
	{0, 7, "", double, 0, api.OpSd, "", "r'", "t'"},
	{1, 0, "", six, 6, api.OpAddi, "r", "r", ""},
	{1, 1, "r", six, 6, api.OpAddiw, "r", "r", ""},
	{1, 2, "", six, 6, api.OpAddi, "r", "0", ""},
	{1, 3, "11:7=2 n", stack, 10, api.OpAddi, "2", "2", ""},
	{1, 3, "11:7/2 n", upper, 18, api.OpLui, "r", "", ""},
	{1, 4, "11:10=0", six, 0, api.OpSrli, "r'", "r'", ""},
	{1, 4, "11:10=1", six, 0, api.OpSrai, "r'", "r'", ""},
	{1, 4, "11:10=2", six, 6, api.OpAndi, "r'", "r'", ""},
	{1, 4, "11:10=3 12:12=0 6:5=0", "", 0, api.OpSub, "r'", "r'", "t'"},
	{1, 4, "11:10=3 12:12=0 6:5=1", "", 0, api.OpXor, "r'", "r'", "t'"},
	{1, 4, "11:10=3 12:12=0 6:5=2", "", 0, api.OpOr, "r'", "r'", "t'"},
	{1, 4, "11:10=3 12:12=0 6:5=3", "", 0, api.OpAnd, "r'", "r'", "t'"},
	{1, 4, "11:10=3 12:12=1 6:5=0", "", 0, api.OpSubw, "r'", "r'", "t'"},
	{1, 4, "11:10=3 12:12=1 6:5=1", "", 0, api.OpAddw, "r'", "r'", "t'"},
	{1, 5, "", jump, 12, api.OpJal, "0", "", ""},
	{1, 6, "", branch, 9, api.OpBeq, "", "r'", "0"},
	{1, 7, "", branch, 9, api.OpBne, "", "r'", "0"},
	{2, 0, "", six, 0, api.OpSlli, "r", "r", ""},
	{2, 2, "r", "5 from 12, 4:2 from 6:4, 7:6 from 3:2", 0, api.OpLw, "r", "2", ""},
	{2, 3, "r", "5 from 12, 4:3 from 6:5, 8:6 from 4:2", 0, api.OpLd, "r", "2", ""},
	{2, 4, "12:12=0 6:2=0 r", "", 0, api.OpJalr, "0", "r", ""},
	{2, 4, "12:12=0 t", "", 0, api.OpAdd, "r", "0", "t"},
	{2, 4, "12:12=1 6:2=0 11:7=0", "", 0, api.OpEbreak, "", "", ""},
	{2, 4, "12:12=1 6:2=0 r", "", 0, api.OpJalr, "1", "r", ""},
	{2, 4, "12:12=1 t", "", 0, api.OpAdd, "r", "r", "t"},
	{2, 6, "", "5:2 from 12:9, 7:6 from 8:7", 0, api.OpSw, "", "2", "t"},
	{2, 7, "", "5:3 from 12:10, 8:6 from 9:7", 0, api.OpSd, "", "2", "t"},
}

// span reads "5:3" or "5" as the highest and the lowest bit.
func span(text string) (int, int) {
	first, second, two := strings.Cut(text, ":")
	hi, _ := strconv.Atoi(first)
	if !two {
		return hi, hi
	}
	lo, _ := strconv.Atoi(second)
	return hi, lo
}

// numberOf is the number that a row has of a parcel.
func (row parcels) numberOf(p uint16) int64 {
	n := int64(0)
	if row.number == "" {
		return 0
	}
	for _, part := range strings.Split(row.number, ", ") {
		to, from, _ := strings.Cut(part, " from ")
		_, lo := span(to)
		hi, low := span(from)
		n += int64(bits(uint32(p), hi, low)) << lo
	}
	if row.signed > 0 {
		return sx(n, row.signed)
	}
	return n
}

// registerOf is a register that a row has of a parcel.
func registerOf(p uint16, text string) int {
	raw := uint32(p)
	switch text {
	case "r":
		return bits(raw, 11, 7)
	case "r'":
		return 8 + bits(raw, 9, 7)
	case "t":
		return bits(raw, 6, 2)
	case "t'":
		return 8 + bits(raw, 4, 2)
	}
	n, _ := strconv.Atoi(text)
	return n
}

// demand tells whether one demand of a row holds: a number or register that is not 0, or bits that are (=) or are not (/) something.
func (row parcels) demand(p uint16, text string) bool {
	switch text {
	case "n":
		return row.numberOf(p) != 0
	case "r", "t":
		return registerOf(p, text) != 0
	}
	if where, value, is := strings.Cut(text, "="); is {
		hi, lo := span(where)
		return strconv.Itoa(bits(uint32(p), hi, lo)) == value
	}
	where, value, _ := strings.Cut(text, "/")
	hi, lo := span(where)
	return strconv.Itoa(bits(uint32(p), hi, lo)) != value
}

// holds tells whether a parcel is of the row.
func (row parcels) holds(p uint16) bool {
	if int(p%4) != row.q || int(p>>13) != row.f {
		return false
	}
	for _, text := range strings.Fields(row.when) {
		if !row.demand(p, text) {
			return false
		}
	}
	return true
}

// record is what a parcel of the row stands for.
func (row parcels) record(p uint16) api.Instr {
	return api.Instr{
		Op: row.op, Rd: registerOf(p, row.rd), Rs1: registerOf(p, row.rs1), Rs2: registerOf(p, row.rs2), Imm: row.numberOf(p),
	}
}

// modelShort is what a parcel stands for; false: none.
func modelShort(t *testing.T, p uint16) (api.Instr, bool) {
	t.Helper()
	var found api.Instr
	count := 0
	for _, row := range allParcels {
		if row.holds(p) {
			found = row.record(p)
			count++
		}
	}
	if count > 1 {
		t.Fatalf("the model has %d rows for %#04x", count, p)
	}
	return found, count == 1
}
