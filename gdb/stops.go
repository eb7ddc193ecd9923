package gdb

import (
	"slices"
	"strconv"
	"strings"

	"anvil/api"
)

// The types of stops. Those from onStore on watch accesses.
const (
	soft = iota
	hard
	onStore
	onLoad
	onBoth
	stopTypes
)

// mostWatched is how many bytes a watch has at most.
const mostWatched = 8

// stop is a breakpoint or a watch: its type, its place and its length together.
type stop struct {
	kind       int
	at, length uint64
}

// setStop does Z.
func (s *Stub) setStop(text string) string {
	one, is := stopOf(text)
	switch {
	case !is:
		return badForm
	case one.kind >= stopTypes:
		return unknown
	case slices.Contains(s.stops, one):
		return done
	case !one.can() || len(s.stops) >= api.MaxStops:
		return cannot
	}
	s.stops = append(s.stops, one)
	return done
}

// clearStop does z.
func (s *Stub) clearStop(text string) string {
	one, is := stopOf(text)
	switch {
	case !is:
		return badForm
	case one.kind >= stopTypes:
		return unknown
	}
	if i := slices.Index(s.stops, one); i >= 0 {
		s.stops = slices.Delete(s.stops, i, i+1)
	}
	return done
}

// stopOf is the stop that Z and z name, its type any decimal digit; false: the text is not of that form.
func stopOf(text string) (stop, bool) {
	kind, span, _ := strings.Cut(text, ",")
	at, length, is := spanOf(span)
	if !is || len(kind) != 1 || kind[0] < '0' || kind[0] > '9' {
		return stop{}, false
	}
	return stop{int(kind[0] - '0'), at, length}, true
}

// can tells whether there can be such a stop: a breakpoint's length may be anything.
func (w stop) can() bool {
	return w.kind < onStore || w.length >= 1 && w.length <= mostWatched
}

// watches tells whether a step's access is one that this stop watches: of its kind, and with a byte of its own.
func (w stop) watches(row api.Row) bool {
	kinds := 0
	switch w.kind {
	case onStore:
		kinds = api.W
	case onLoad:
		kinds = api.R
	case onBoth:
		kinds = api.R | api.W
	}
	return row.Mem&kinds != 0 && meet(w.at, w.length, row.Addr, uint64(row.Size))
}

// meet tells whether two runs of bytes, which may wrap round, have one in common: one of them begins in the other then.
func meet(a, aLength, b, bLength uint64) bool {
	return b-a < aLength || a-b < bLength
}

// name is what the debugger is told when a watch is met.
func (w stop) name() string {
	text := "T05watch:"
	switch w.kind {
	case onLoad:
		text = "T05rwatch:"
	case onBoth:
		text = "T05awatch:"
	}
	return text + strconv.FormatUint(w.at, hexBase) + ";"
}
