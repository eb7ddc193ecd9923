package gdb_test

import (
	"strings"
	"testing"

	"anvil/api"
	"anvil/gdb"
)

// TestP17_3Refused: a deck that cannot be played has no stub; the edges are played.
func TestP17_3Refused(t *testing.T) {
	part := func(addr, size uint64, n int) []api.Seg {
		return []api.Seg{{Addr: addr, Size: size, Data: make([]byte, n)}}
	}
	for what, change := range map[string]func(d *api.Deck){
		"no RAM":               func(d *api.Deck) { d.Ram = 0 },
		"RAM below 0":          func(d *api.Deck) { d.Ram = -8 },
		"12 bytes of RAM":      func(d *api.Deck) { d.Ram = 12 },
		"too much RAM":         func(d *api.Deck) { d.Ram = maxRam + 8 },
		"17 parts":             func(d *api.Deck) { d.Parts = make([]api.Seg, 17) },
		"a part below RAM":     func(d *api.Deck) { d.Parts = part(ram-1, 1, 1) },
		"a part beyond RAM":    func(d *api.Deck) { d.Parts = part(ram+9, 8, 1) },
		"a part that wraps":    func(d *api.Deck) { d.Parts = part(ones, 2, 1) },
		"a part of too little": func(d *api.Deck) { d.Parts = part(ram, 1, 2) },
		"too many worlds":      func(d *api.Deck) { d.Worlds = make([]api.World, maxSteps+1) },
		"too much input":       func(d *api.Deck) { d.Worlds = []api.World{{Input: make([]byte, 65)}} },
	} {
		d := little()
		change(&d)
		if s, e := gdb.New(d); s != nil || e != api.ErrBoard {
			t.Errorf("P17.3: %s: New answers %v and error %d", what, s, e)
		}
	}
	if s, e := gdb.New(api.Deck{}); s != nil || e != api.ErrBoard {
		t.Errorf("P17.3: New answers %v and error %d of the zero deck", s, e)
	}
	for what, change := range map[string]func(d *api.Deck){
		"least RAM":    func(d *api.Deck) { d.Ram = 8 },
		"greatest RAM": func(d *api.Deck) { d.Ram = maxRam },
		"most worlds":  func(d *api.Deck) { d.Worlds = make([]api.World, maxSteps) },
		"most input":   func(d *api.Deck) { d.Worlds = []api.World{{Input: make([]byte, 64)}} },
		"part of none": func(d *api.Deck) { d.Parts = part(ram+16, 0, 0) },
		"a wild Cpu": func(d *api.Deck) {
			d.Cpu = api.Cpu{Pc: ones, Mode: 7, Mstatus: ones, Mtvec: ones, Mie: ones, Waiting: true}
		},
		"mtime at last": func(d *api.Deck) { d.Mtime = ones },
	} {
		d := little()
		change(&d)
		holds(t, "P17.3: "+what, made(t, d), boarded(t, d).Whole(), 0)
	}
}

// TestP17_3Begins: there are no stops, nothing was sent, no packet has begun, and it acknowledges.
func TestP17_3Begins(t *testing.T) {
	d := little()
	d.Mtime = 77
	d.Worlds = []api.World{{Tick: true, Input: []byte("abc")}}
	s := made(t, d)
	holds(t, "P17.3", s, boarded(t, d).Whole(), 0)
	fed(t, s, "-", "")
	fed(t, s, "3f", "")
	fed(t, s, "?#3f", "")
	fed(t, s, "$?#00", "-")
	fed(t, s, "-", "")
	fed(t, s, "$?#3f", "+$S05#b8")
	holds(t, "P17.3", s, boarded(t, d).Whole(), 0)
	ask(t, s, "c", "S02")
	stands(t, s, maxRun, ram+4)
}

// brought is worlds of every kind.
func brought() []api.World {
	return []api.World{
		{Tick: true}, {Ext: true}, {Soft: true, Input: []byte("first")}, {Tick: true, Ext: true, Soft: true}, {}, {Tick: true, Input: []byte("x")}, {Ext: true, Tick: true},
	}
}

// TestP17_3Worlds: a world a step, whatever command makes it, in their order; behind them empty ones; none is used up where no step is made.
func TestP17_3Worlds(t *testing.T) {
	for _, commands := range []string{
		"s s s s s s s s s s", "c c c", "s vCont;s c80000000 s80000002 vCont;s:1 s s s s", "s ? g m80000000,4 ?- s p20 s s Z0,80000004,1 c s80000000 c c",
	} {
		d := little()
		d.Worlds = brought()
		s, b := made(t, d), boarded(t, d)
		n := 0
		for _, command := range strings.Fields(commands) {
			was := s.Whole()
			s.Feed([]byte(packet(command)))
			if at, is := strings.CutPrefix(command, "s"); is && at != "" || command[0] == 'c' && command != "c" {
				c := b.Whole().Cpu
				c.Pc = numeral(command[1:])
				b.Set(c)
			}
			for n < s.Steps() {
				var w api.World
				if n < len(brought()) {
					w = brought()[n]
				}
				b.Step(w)
				n++
			}
			holds(t, "P17.3: "+command, s, b.Whole(), n)
			if n == 0 && !same(was, s.Whole()) {
				t.Errorf("P17.3: %s: something changed without a step", command)
			}
		}
		if n < len(brought()) {
			t.Errorf("%s: %d steps: too few to tell", commands, n)
		}
		if w := s.Whole().Bus; w.Mtime != 4 || w.Ext || w.Soft || string(w.Input) != "firstx" {
			t.Errorf("P17.3: %s: behind all worlds the bus is %+v", commands, w)
		}
	}
}

// TestP17_3Used: a deck of as many worlds as there can be, used up by a c and a half.
func TestP17_3Used(t *testing.T) {
	d := little()
	d.Worlds = make([]api.World, maxSteps)
	for i := range d.Worlds {
		d.Worlds[i].Tick = true
	}
	s := made(t, d)
	for n := 1; n <= 3; n++ {
		ask(t, s, "c", "S02")
		if w := s.Whole(); s.Steps() != n*maxRun || w.Bus.Mtime != uint64(min(n*maxRun, maxSteps)) || w.Cpu.Mcycle != uint64(n*maxRun) {
			t.Errorf("P17.3: behind %d steps mtime is %d, mcycle %d", s.Steps(), w.Bus.Mtime, w.Cpu.Mcycle)
		}
	}
}

// TestP17_3Look: Whole and Steps change nothing, and may be asked at any time.
func TestP17_3Look(t *testing.T) {
	s := made(t, little())
	talk := packet("s") + packet("Z0,80000004,2") + packet("c") + "$?#3" + "f-"
	want := string(made(t, little()).Feed([]byte(talk)))
	got := ""
	for i := range len(talk) {
		stays(t, "P17.3", s, func() { s.Whole(); s.Steps() })
		got += string(s.Feed([]byte(talk[i : i+1])))
	}
	if got != want {
		t.Errorf("P17.3: looked at, it sends %q, want %q", got, want)
	}
}
