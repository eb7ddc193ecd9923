package pmp_test

import (
	"testing"

	"anvil/api"
	"anvil/pmp"
)

// The examples of section 4.6, by their numbers.

func TestExample1OfPmp(t *testing.T) {
	same(t, "Proper", pmp.Proper(list(0xff, last, 0x02, 0, 0x06, 0)), list(0x9f, 1<<54-1, 0, 0, 0x04, 0))
}

func TestExample2OfPmp(t *testing.T) {
	p := list(0x0f, 4)
	span(t, p, 0, 0, 15)
	check(t, p, api.U, 12, 4, api.R, true)
	check(t, p, api.U, 12, 8, api.R, false)
	check(t, p, api.M, 12, 8, api.R, false)
	check(t, p, api.U, 16, 4, api.R, false)
	check(t, p, api.M, 16, 4, api.R, true)
}

func TestExample3OfPmp(t *testing.T) {
	p := list(0, 4, 0x8f, 8)
	span(t, p, 1, 16, 31)
	same(t, "SetAddr 0", pmp.SetAddr(p, 0, 1), p)
	same(t, "SetAddr 1", pmp.SetAddr(p, 1, 1), p)
	same(t, "SetAddr 2", pmp.SetAddr(p, 2, 1), list(0, 4, 0x8f, 8, 0, 1))
	locked(t, p, 0, false, true)
	locked(t, p, 1, true, true)
	locked(t, p, 2, false, false)
	locked(t, p, 16, true, true)
	p.Addr[1] = 4
	empty(t, p, 1)
	locked(t, p, 0, false, true)
	locked(t, p, 1, true, true)
}

func TestExample4OfPmp(t *testing.T) {
	span(t, list(0x1f, 0), 0, 0, 7)
	span(t, list(0x1f, 1), 0, 0, 15)
	span(t, list(0x1f, 0x20000003), 0, 0x80000000, 0x8000001f)
	span(t, list(0x1f, 1<<53-1), 0, 0, 1<<56-1)
	span(t, list(0x1f, 1<<54-1), 0, 0, last)
}

func TestExample5OfPmp(t *testing.T) {
	p := list(0x11, 1)
	span(t, p, 0, 4, 7)
	check(t, p, api.U, 4, 4, api.R, true)
	check(t, p, api.U, 4, 1, api.R, true)
	check(t, p, api.U, 4, 4, api.W, false)
	check(t, p, api.U, 0, 8, api.R, false)
	check(t, p, api.U, 2, 4, api.R, false)
	check(t, p, api.M, 4, 4, api.W, true)
	check(t, list(0x91, 1), api.M, 4, 4, api.W, false)
}

func TestExample6OfPmp(t *testing.T) {
	p := pmp.SetCfg(api.Pmp{}, 0, 0x0f8f)
	same(t, "SetCfg", p, list(0x8f, 0, 0x0f, 0))
	same(t, "SetCfg of 0", pmp.SetCfg(p, 0, 0), list(0x8f, 0, 0, 0))
	same(t, "SetCfg of register 1", pmp.SetCfg(p, 1, 0), p)
}

func TestExample7OfPmp(t *testing.T) {
	p := list(0x11, 0, 0x1b, 0)
	check(t, p, api.U, 0, 8, api.R, false)
	check(t, p, api.U, 4, 4, api.W, true)
	check(t, p, api.U, 0, 4, api.W, false)
	granted(t, p, 0, api.W, false)
	granted(t, p, 4, api.W, true)
	granted(t, p, 8, api.R, false)
}

func TestExample8OfPmp(t *testing.T) {
	match(t, list(0x1f, 1<<54-1), last-3, 8, 0, true)
	match(t, list(0, 0, 0x11, 0), last-3, 8, 1, false)
}
