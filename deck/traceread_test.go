package deck_test

import (
	"fmt"
	"slices"
	"strings"
	"testing"

	"anvil/api"
	"anvil/deck"
)

// heldToFault: ParseTrace must refuse a text at the line that the model finds; a text that is taken must be told again byte for byte. It tells the line.
func heldToFault(t *testing.T, text string) int {
	t.Helper()
	line := modelFault(text)
	if line != 0 {
		noTrace(t, text, line)
		return line
	}
	tr, err := deck.ParseTrace(text)
	if err != nil {
		t.Fatalf("P14.5: %q: %v", shown(text), err)
	}
	if again, why := deck.PrintTrace(tr); again != text || why != api.OK {
		t.Fatalf("P14.6: %q is told as %q, error %d", shown(text), shown(again), why)
	}
	return 0
}

// TestP14_5Beginnings: every beginning of a trace's text; of some it is a trace's too, and then nothing else may stand behind it.
func TestP14_5Beginnings(t *testing.T) {
	t.Parallel()
	text := modelTrace(full())
	mode := strings.Index(text, "mode m\n") + len("mode m\n")
	for n := range len(text) + 1 {
		own := text[:n]
		lines := strings.Count(own, "\n")
		if n >= mode && text[n-1] == '\n' {
			if tr, err := deck.ParseTrace(own); err != nil || len(tr.Rows) != len(full().Rows) {
				t.Errorf("P14.5: %q: %v", own, err)
			}
			noTrace(t, own+"\n", lines+1)
			noTrace(t, own+"x", lines+1)
			noTrace(t, own+"anvil trace 1\n", lines+1)
			heldToFault(t, own)
			continue
		}
		noTrace(t, own, lines+1)
	}
}

// TestP14_5Changed: a text with one byte changed, put in or taken out.
func TestP14_5Changed(t *testing.T) {
	t.Parallel()
	text := modelTrace(full())
	good := 0
	for at := range len(text) {
		heldToFault(t, text[:at]+text[at+1:])
		for _, b := range []byte(" \n\t\r0123489abefAxmuwrgz=;->\"\\#,\x00\x7f\xff") {
			if heldToFault(t, text[:at]+string([]byte{b})+text[at+1:]) == 0 && b != text[at] {
				good++
			}
			if at%7 == int(b)%7 {
				heldToFault(t, text[:at]+string([]byte{b})+text[at:])
			}
		}
	}
	if good < 500 {
		t.Errorf("%d changed texts are traces: the test has grown idle", good)
	}
}

// TestP14_5Any: any trace's text with some bytes changed, and with lines lost, doubled and in another order.
func TestP14_5Any(t *testing.T) {
	t.Parallel()
	r := random(8)
	good := 0
	for range 6000 {
		text := modelTrace(anyTrace(r))
		if r.IntN(2) == 0 {
			at := r.IntN(len(text))
			text = text[:at] + one(r, "", " ", "\n", "0", "1", "a", "f", "x", "=", "m", "u", "\"", "\\", "\xff", "0x") + text[at+r.IntN(2):]
		} else {
			lines := strings.SplitAfter(text, "\n")
			i, j := r.IntN(len(lines)), r.IntN(len(lines))
			switch r.IntN(4) {
			case 0:
				lines = slices.Delete(lines, i, i+1)
			case 1:
				lines = slices.Insert(lines, i, lines[j])
			case 2:
				lines[i], lines[j] = lines[j], lines[i]
			case 3:
				lines[i] = lines[j]
			}
			text = strings.Join(lines, "")
		}
		if heldToFault(t, text) == 0 {
			good++
		}
	}
	if good < 300 {
		t.Errorf("%d changed texts are traces: the test has grown idle", good)
	}
}

// TestP14_5Lines: what is nearly a line of a trace.
func TestP14_5Lines(t *testing.T) {
	noTrace(t, "", 1)
	for _, head := range []string{"", " ", "anvil 1", "anvil trace", "anvil trace 2", "anvil trace 01", "anvil  trace 1", " anvil trace 1", "anvil trace 1 ", "anvil trace 1\r", "Anvil trace 1", "# anvil trace 1", "end running"} {
		noTrace(t, joined(head, "end running", "pc 0x80000000", "mode m"), 1)
	}
	for _, row := range []string{
		"", " ", "#", "x", "end", "end  running", "end running ", " end running", "end Running", "end passed 0", "end running 0", "end failed", "end failed ", "end failed 07", "end failed 0x7", "end failed -1", "end failed 65536", "end failed 18446744073709551616", "end failed 7 ", "end off", "pc 0x0", "mode m",
		"1", "1 off", "1 off m", "1 off m 0x0", "1 off m 0x0 ->", "1 off m 0x0 -> m", "1 off m 0x0 -> m ", "1 off m -> m 0x0", "off m 0x0 -> m 0x0",
		"-1 off m 0x0 -> m 0x0", "01 off m 0x0 -> m 0x0", "0x1 off m 0x0 -> m 0x0", "9223372036854775808 off m 0x0 -> m 0x0", "18446744073709551616 off m 0x0 -> m 0x0", "18446744073709551617 off m 0x0 -> m 0x0",
		"1 Off m 0x0 -> m 0x0", "1 none m 0x0 -> m 0x0", "1 off s 0x0 -> m 0x0", "1 off M 0x0 -> m 0x0", "1 off m 0 -> m 0x0", "1 off m 0x00 -> m 0x0", "1 off m 0xA -> m 0x0", "1 off m 0x0 -> m 0xA", "1 off m 0x0 -> x 0x0", "1 off m 0x0 -> m 0", "1 off m 0x10000000000000000 -> m 0x0",
		"1 off m 0x0  -> m 0x0", " 1 off m 0x0 -> m 0x0", "1 off m 0x0 -> m 0x0 ", "1 off m 0x0 -> m 0x0 x", "1 off m 0x0 -> m 0x0 ;", "1 off m 0x0 -> m 0x0 ; .half 0x0000", "1\toff m 0x0 -> m 0x0", "1 off m 0x0 -> m 0x0\r", "1 off m 0x0 - > m 0x0", "1 off m 0x0 => m 0x0", "1 off m 0x0 -> -> m 0x0",
		"1 off m 0x0 x=0x1 -> m 0x0", "1 off m 0x0 raw=0x0 -> m 0x0", "1 off m 0x0 raw=1 -> m 0x0", "1 off m 0x0 raw=0x01 -> m 0x0", "1 off m 0x0 raw=0x100000000 -> m 0x0", "1 off m 0x0 raw=0x100000001 -> m 0x0", "1 off m 0x0 raw= -> m 0x0", "1 off m 0x0 raw -> m 0x0", "1 off m 0x0 raw=0x1=0x1 -> m 0x0", "1 off m 0x0 raw=0x1 raw=0x1 -> m 0x0", "1 off m 0x0 =0x1 -> m 0x0", "1 off m 0x0 Raw=0x1 -> m 0x0",
		"1 off m 0x0 len=0 -> m 0x0", "1 off m 0x0 len=2 -> m 0x0", "1 off m 0x0 len=2 -> m 0x0 ;", "1 off m 0x0 len=2 -> m 0x0 ; c.nop", "1 off m 0x0 len=2 -> m 0x0 ; .half 0x0", "1 off m 0x0 len=2 -> m 0x0 ;  .half 0x0000", "1 off m 0x0 len=2 -> m 0x0 ; .half 0x0000 ", "1 off m 0x0 len=3 -> m 0x0 ; .half 0x0000", "1 off m 0x0 len=1 -> m 0x0 ; .half 0x0000", "1 off m 0x0 len=0x2 -> m 0x0 ; .half 0x0000", "1 off m 0x0 len=18446744073709551618 -> m 0x0 ; .half 0x0000",
		"1 off m 0x0 raw=0x13 len=4 -> m 0x0 ; nop", "1 off m 0x0 raw=0x13 len=4 -> m 0x0 ; addi x0, x0, 0", "1 off m 0x0 raw=0x13 len=4 -> m 0x0 ; addi zero,zero,0", "1 off m 0x4 raw=0x6f len=4 -> m 0x0 ; jal zero, 0x0",
		"1 off m 0x0 rd=zero -> m 0x0", "1 off m 0x0 rd=x10 -> m 0x0", "1 off m 0x0 rd=10 -> m 0x0", "1 off m 0x0 rd=fp -> m 0x0", "1 off m 0x0 rd=a9 -> m 0x0", "1 off m 0x0 rd= -> m 0x0",
		"1 off m 0x0 mem=0 -> m 0x0", "1 off m 0x0 mem=wr -> m 0x0", "1 off m 0x0 mem=x -> m 0x0", "1 off m 0x0 mem= -> m 0x0", "1 off m 0x0 mem=1 -> m 0x0", "1 off m 0x0 mem=- -> m 0x0",
		"1 off m 0x0 size=0 -> m 0x0", "1 off m 0x0 size=3 -> m 0x0", "1 off m 0x0 size=16 -> m 0x0", "1 off m 0x0 size=0x4 -> m 0x0", "1 off m 0x0 size=04 -> m 0x0",
		"1 off m 0x0 val=0x1 rd=a0 -> m 0x0", "1 off m 0x0 data=0x1 size=4 -> m 0x0", "1 off m 0x0 addr=0x1 mem=r -> m 0x0", "1 off m 0x0 tval=0x1 cause=0x1 -> m 0x0", "1 off m 0x0 cause=0x1 raw=0x1 -> m 0x0", "1 off m 0x0 cause=-1 -> m 0x0", "1 off m 0x0 val=0x10000000000000000 -> m 0x0",
	} {
		text := joined("anvil trace 1", "1 off m 0x0 -> m 0x0", row, "end running", "pc 0x80000000", "mode m")
		noTrace(t, text, 3)
		noTrace(t, joined("anvil trace 1", row), 2)
		if modelFault(text) != 3 {
			t.Errorf("the model takes %q", row)
		}
	}
	noTrace(t, "anvil trace 1", 1)
	noTrace(t, "anvil trace 1\n", 2)
	noTrace(t, "anvil trace 1\n1 off m 0x0 -> m 0x0\n", 3)
	noTrace(t, "anvil trace 1\nend running\n", 3)
	noTrace(t, "anvil trace 1\nend running\npc 0x0\n", 4)
	noTrace(t, "anvil trace 1\nend running\npc 0x0\nmode m", 4)
	noTrace(t, "anvil trace 1\nend running\nend running\n", 3)
	noTrace(t, "anvil trace 1\nend running\n1 off m 0x0 -> m 0x0\n", 3)
}

// TestP14_5Cpu: the Cpu's lines in another order, twice, with the value of the proper zero Cpu, or with one that no proper Cpu has.
func TestP14_5Cpu(t *testing.T) {
	begin := []string{"anvil trace 1", "end running"}
	for _, line := range []string{"mode m", "waiting", "reg a0 0x1", `output "a"`, "pc 0x1", "pc 0", "pc 0x00", "pc 0xA", "pc -2", "pc 0x0 0x0", "pc", "Pc 0x0", " pc 0x0", "pc  0x0", "pc 0x0 ", "pc\t0x0", `pc "0x0"`, `"pc" 0x0`, "pc 0x10000000000000000", "", "# x", "mtime 0x1", "ram 8"} {
		noTrace(t, joined(append(slices.Clone(begin), line, "mode m")...), 3)
	}
	begin = append(begin, "pc 0x80000000")
	for _, line := range []string{"pc 0x80000000", "mode s", "mode M", "mode", "mode m ", "mode  m", "waiting", "reg a0 0x1", "csr mie 0x8", "res 0x0 4", `output "a"`, "", "#"} {
		noTrace(t, joined(append(slices.Clone(begin), line)...), 4)
	}
	begin = append(begin, "mode m")
	for _, line := range []string{
		"pc 0x80000000", "mode m", "mode u", "waiting ", " waiting", "waiting 1", "", " ", "#", "x", "mtime 0x1", "part 0x80000000 0 -", "step", "end", "end running",
		"reg a0 0x0", "reg a0 1", "reg x10 0x1", "reg fp 0x1", "reg zero 0x0", "reg zero 0x1", "reg x0 0x1", "reg a9 0x1", "reg a0 0x01", "reg a0 0xA", "reg a0 -0x1", "reg a0  0x1", "reg a0 0x10000000000000000", "reg a0",
		"csr mstatus 0x200000000", "csr mstatus 0x0", "csr mstatus 0x8", "csr mstatus 0x200000800", "csr mstatus 0x200001000", "csr mstatus 0x200000001", "csr mstatus 0x300000000", "csr mie 0x1", "csr mie 0x0", "csr mie 0x889", "csr mtvec 0x2", "csr mtvec 0x7", "csr mcounteren 0x8", "csr mcountinhibit 0x2", "csr menvcfg 0x2", "csr mepc 0x1", "csr mscratch 0x0", "csr 0x300 0x200000008", "csr mip 0x8", "csr cycle 0x1", "csr misa 0x1",
		"pmp 0 0x0 0x0", "pmp 0 0x2 0x0", "pmp 0 0x20 0x0", "pmp 0 0x40 0x1", "pmp 0 0x100 0x1", "pmp 0 0x1ff 0x1", "pmp 0 0x1 0x40000000000000", "pmp 16 0x1 0x0", "pmp 0x0 0x1 0x0", "pmp 00 0x1 0x0", "pmp 0 1 0x0", "pmp 0 0x1 0", "pmp 0 0x1",
		"res 0x0 2", "res 0x2 4", "res 0x4 8", "res 0x0 0x4", "res 0x0 04", "res 0 4", "res 0x0",
		`output ""`, "output", `output a`, `output "a" `, `output  "a"`, ` output "a"`, `output "a" "b"`, `output "\x41"`, `output "\x0a"`, `output "\xFF"`, `output "\t"`, "output \"\x00\"", "output \"\xff\"", `output "a`, `output "a"b`, `output "\"`, `Output "a"`, `"output" "a"`, `input "a"`,
	} {
		noTrace(t, joined(append(slices.Clone(begin), line)...), 5)
		if modelFault(joined(append(slices.Clone(begin), line)...)) != 5 {
			t.Errorf("the model takes %q", line)
		}
	}
	inOrder := []string{"waiting", "reg ra 0x1", "reg a0 0x1", "reg t6 0x1"}
	for _, name := range csrNames {
		value := map[string]string{"mstatus": "0x200000008", "mie": "0x8", "mepc": "0x2"}[name]
		if value == "" {
			value = "0x1"
		}
		inOrder = append(inOrder, "csr "+name+" "+value)
	}
	inOrder = append(inOrder, "pmp 0 0x1 0x0", "pmp 1 0x0 0x1", "pmp 10 0x9f 0x3", "pmp 15 0x18 0x0", "res 0x8 8", `output "a"`)
	for i, a := range inOrder {
		if _, err := deck.ParseTrace(joined(append(slices.Clone(begin), a)...)); err != nil {
			t.Errorf("P14.5: %q: %v", a, err)
		}
		for j, b := range inOrder {
			text := joined(append(slices.Clone(begin), a, b)...)
			if j <= i {
				noTrace(t, text, 6)
			} else if _, err := deck.ParseTrace(text); err != nil {
				t.Errorf("P14.5: %q and %q: %v", a, b, err)
			}
		}
	}
	if tr, err := deck.ParseTrace(joined(append(slices.Clone(begin), inOrder...)...)); err != nil || tr.Cpu.Pmp.Cfg[10] != 0x9f {
		t.Errorf("P14.5: all lines: %v", err)
	}
}

// TestP14_5Spoken: a row's text must be its own instruction's, at its own place.
func TestP14_5Spoken(t *testing.T) {
	r := random(9)
	for range 300 {
		row := anyRow(r)
		row.Len = 4
		line := modelRow(row)
		said := line[strings.Index(line, " ; ")+3:]
		other := row
		other.Raw ^= 1 << r.IntN(32)
		line2 := modelRow(other)
		said2 := line2[strings.Index(line2, " ; ")+3:]
		heldToFault(t, joined("anvil trace 1", line, "end running", "pc 0x0", "mode u"))
		if said != said2 {
			noTrace(t, joined("anvil trace 1", strings.TrimSuffix(line, said)+said2, "end running", "pc 0x0", "mode u"), 2)
		}
	}
}

// TestP14_6Texts: no two traces have one text, and no two texts tell one trace.
func TestP14_6Texts(t *testing.T) {
	r := random(10)
	traces := map[string]api.Trace{}
	for range 3000 {
		tr := anyTrace(r)
		if r.IntN(2) == 0 { // traces that are nearly alike
			tr = full()
			row := &tr.Rows[r.IntN(5)]
			switch r.IntN(8) {
			case 0:
				row.Step ^= 1
			case 1:
				row.Val ^= 1 << r.IntN(3)
			case 2:
				row.Len = 2 * r.IntN(3)
			case 3:
				row.Raw ^= 1 << r.IntN(32)
			case 4:
				tr.Cpu.X[1+r.IntN(31)] ^= 1
			case 5:
				tr.Output = tr.Output[:r.IntN(8)]
			case 6:
				tr.Code = r.IntN(100)
			case 7:
				row.Rd = r.IntN(32)
			}
		}
		text, why := deck.PrintTrace(tr)
		if why != api.OK {
			t.Fatalf("error %d", why)
		}
		if other, is := traces[text]; is && !sameTrace(other, tr) {
			t.Fatalf("P14.6: two traces have the text %q", text)
		}
		traces[text] = tr
		got, err := deck.ParseTrace(text)
		if err != nil || !sameTrace(got, tr) {
			t.Fatalf("P14.6: %q: %v", text, err)
		}
	}
	if len(traces) < 1500 {
		t.Errorf("%d texts: the test has grown idle", len(traces))
	}
}

// TestP14_5Great: a trace may have many rows, and its lines have no bound of length.
func TestP14_5Great(t *testing.T) {
	tr := quiet()
	for i := range 5000 {
		tr.Rows = append(tr.Rows, api.Row{Step: i + 1, Kind: 1 + i%5, Raw: uint32(i), Len: 4, Next: uint64(i)})
	}
	tr.Output = bytesUpTo(50000)
	text, why := deck.PrintTrace(tr)
	if why != api.OK {
		t.Fatalf("error %d", why)
	}
	if got, err := deck.ParseTrace(text); err != nil || !sameTrace(got, tr) {
		t.Errorf("P14.5: %v", err)
	}
	noTrace(t, text+"\n", strings.Count(text, "\n")+1)
	noTrace(t, strings.Repeat("x", 1<<20)+"\n", 1)
	noTrace(t, "anvil trace 1\n"+strings.Repeat(" ", 1<<20)+"\n", 2)
	noTrace(t, "anvil trace 1\n"+strings.Repeat("1", 1<<20)+" off m 0x0 -> m 0x0\n", 2)
	noTrace(t, strings.Repeat("\n", 1<<16), 1)
	noTrace(t, fmt.Sprintf("anvil trace 1\nend failed %s\n", strings.Repeat("0", 1<<16)), 2)
}
