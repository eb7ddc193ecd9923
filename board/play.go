package board

import (
	"anvil/api"
	"anvil/deck"
)

// Play plays a deck.
func Play(d api.Deck) (api.Trace, api.Errno) {
	b, errno := New(d)
	if errno != api.OK {
		return api.Trace{}, errno
	}
	rows := make([]api.Row, 0, len(d.Worlds))
	for _, w := range d.Worlds {
		rows = append(rows, b.Step(w))
	}
	off, code := b.bus.Off()
	return api.Trace{Rows: rows, Cpu: b.cpu, Off: off, Code: code, Output: b.bus.Output()}, api.OK
}

// Run plays a deck's text: the trace's text; an error is deck's, or an Errno.
func Run(text string) (string, error) {
	d, err := deck.Parse(text)
	if err != nil {
		return "", err
	}
	trace, errno := Play(d)
	if errno != api.OK {
		return "", errno
	}
	told, errno := deck.PrintTrace(trace)
	if errno != api.OK {
		return "", errno
	}
	return told, nil
}
