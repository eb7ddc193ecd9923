package deck

import (
	"bytes"

	"anvil/api"
)

// addCountedWorlds reads what stands behind steps.
func (r *reader) addCountedWorlds(rest []word) api.Errno {
	if len(rest) == 0 {
		return api.ErrLine
	}
	count, is := operandOf(rest[0], aCount)
	if !is {
		return api.ErrLine
	}
	return r.addWorlds(count.value, rest[1:])
}

// addWorlds adds so many worlds as the words say.
func (r *reader) addWorlds(count uint64, words []word) api.Errno {
	w, is := worldOf(words)
	switch {
	case !is:
		return api.ErrLine
	case count == 0 || len(w.Input) > api.MaxInput:
		return api.ErrSetting
	case count > uint64(api.MaxSteps-len(r.deck.Worlds)):
		return api.ErrMany
	}
	for range count {
		own := w
		own.Input = bytes.Clone(w.Input)
		r.deck.Worlds = append(r.deck.Worlds, own)
	}
	return api.OK
}

// worldOf is the world that words say.
func worldOf(words []word) (api.World, bool) {
	var w api.World
	hasInput := false
	for i := 0; i < len(words); i++ {
		switch own := words[i]; {
		case own.is("tick") && !w.Tick:
			w.Tick = true
		case own.is("ext") && !w.Ext:
			w.Ext = true
		case own.is("soft") && !w.Soft:
			w.Soft = true
		case own.is("input") && !hasInput && i+1 < len(words) && words[i+1].quoted:
			i++
			w.Input = []byte(words[i].text)
			hasInput = true
		default:
			return api.World{}, false
		}
	}
	return w, true
}

// worldWords is the words that say a world.
func worldWords(w api.World) []string {
	var words []string
	if w.Tick {
		words = append(words, "tick")
	}
	if w.Ext {
		words = append(words, "ext")
	}
	if w.Soft {
		words = append(words, "soft")
	}
	if len(w.Input) > 0 {
		words = append(words, "input", quoted(w.Input))
	}
	return words
}

func alike(a, b api.World) bool {
	return a.Tick == b.Tick && a.Ext == b.Ext && a.Soft == b.Soft && bytes.Equal(a.Input, b.Input)
}
