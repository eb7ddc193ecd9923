package deck

import (
	"errors"

	"anvil/api"
	"anvil/asm"
	"anvil/image"
	"anvil/valid"
)

// dataWord begins a line of bytes.
const dataWord = "data"

// endWord is the line that ends a source.
const endWord = "end"

// addPart reads a part's line; its bytes come with the lines behind it.
func (r *reader) addPart(rest []word) api.Errno {
	o, is := operandsOf(rest, aNumber, aCount, aWord)
	if !is {
		return api.ErrLine
	}
	flags, is := flagsOf(o[2].text)
	if !is {
		return api.ErrLine
	}
	own := api.Seg{Addr: o[0].value, Size: o[1].value, Flags: flags}
	if !valid.Place(own, r.deck.Ram) {
		return api.ErrSetting
	}
	if len(r.deck.Parts) >= api.MaxParts {
		return api.ErrMany
	}
	r.deck.Parts = append(r.deck.Parts, own)
	r.open = aPart
	return api.OK
}

// addData reads a line of bytes, which go to the part or the elf ahead of it.
func (r *reader) addData(rest []word) api.Errno {
	o, is := operandsOf(rest, aWord)
	if !is {
		return api.ErrLine
	}
	own, is := bytesOf(o[0].text)
	if !is {
		return api.ErrLine
	}
	switch r.open {
	case aPart:
		return addTo(&r.deck.Parts[len(r.deck.Parts)-1], own)
	case anElf:
		r.program = append(r.program, own...)
		return api.OK
	}
	return api.ErrLine
}

// addTo puts bytes behind those that a part has.
func addTo(to *api.Seg, own []byte) api.Errno {
	if uint64(len(to.Data)+len(own)) > to.Size {
		return api.ErrSetting
	}
	to.Data = append(to.Data, own...)
	return api.OK
}

// begin reads the line of a program; what it is comes with the lines behind it.
func (r *reader) begin(kind int, rest []word) api.Errno {
	if len(rest) > 0 {
		return api.ErrLine
	}
	r.open, r.begun, r.program = kind, r.lines, nil
	return api.OK
}

// takeSource reads a line of a source, or the one that ends it.
func (r *reader) takeSource(l line) error {
	if l.isJust(endWord) {
		return r.endSource()
	}
	r.program = append(r.program, l.text...)
	r.program = append(r.program, lineEnd...)
	return nil
}

func (r *reader) endSource() error {
	r.open = nothing
	im, err := asm.Assemble(string(r.program))
	if err != nil {
		return behind(err, r.begun)
	}
	return r.load(im)
}

func (r *reader) endElf() error {
	r.open = nothing
	im, err := image.Read(r.program)
	if err != nil {
		return behind(err, r.begun)
	}
	return r.load(im)
}

// load adds the parts of a program that has ended.
func (r *reader) load(im api.Image) error {
	if len(r.deck.Parts)+len(im.Segs) > api.MaxParts {
		return fault(r.begun, api.ErrMany)
	}
	for _, own := range im.Segs {
		if !valid.Place(own, r.deck.Ram) {
			return fault(r.begun, api.ErrSetting)
		}
	}
	r.deck.Parts = append(r.deck.Parts, im.Segs...)
	r.deck.Cpu.Pc = im.Entry
	return nil
}

// behind is a program's own fault, counted from the line of the text where the program begins.
func behind(err error, line int) error {
	var f *api.Fault
	if !errors.As(err, &f) {
		return err
	}
	return &api.Fault{Line: line + f.Line, At: f.At, Why: f.Why}
}

// flagsOf is the rights that letters say, which stand in one order.
func flagsOf(text string) (int, bool) {
	for flags := range allFlags + 1 {
		if text == flagsText(flags) {
			return flags, true
		}
	}
	return 0, false
}

// flagsText is rights as letters.
func flagsText(flags int) string {
	text := ""
	if flags&api.R != 0 {
		text += "r"
	}
	if flags&api.W != 0 {
		text += "w"
	}
	if flags&api.X != 0 {
		text += "x"
	}
	if text == "" {
		return "-"
	}
	return text
}
