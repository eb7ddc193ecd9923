package bus_test

import (
	"bytes"
	"math/rand/v2"
	"slices"
	"sync"
	"testing"

	"anvil/api"
	"anvil/bus"
)

// TestP3_9Bytes: stores of all sizes, one over the other; a second RAM is told byte by byte.
func TestP3_9Bytes(t *testing.T) {
	r := dice(9)
	s := rich()
	b := of(t, s)
	for range 20000 {
		size := 1 << r.IntN(4)
		at := r.IntN(16/size) * size
		v := r.Uint64()
		wantStore(t, b, ram+uint64(at), size, v)
		for i := range size {
			s.Ram[at+i] = byte(v >> (8 * i))
		}
		if got := b.State(); !same(got, s) {
			t.Fatalf("behind Store(%#x, %d, %#x) the state is\n%s, want\n%s", ram+at, size, v, brief(got), brief(s))
		}
		for at, c := range s.Ram {
			wantLoad(t, b, ram+uint64(at), 1, uint64(c))
		}
	}
}

// piece is a store to RAM.
type piece struct {
	at   uint64
	size int
	v    uint64
}

func anyPiece(r *rand.Rand) piece {
	size := 1 << r.IntN(4)
	return piece{uint64(r.IntN(16/size) * size), size, r.Uint64()}
}

func (p piece) meets(q piece) bool {
	return p.at < q.at+uint64(q.size) && q.at < p.at+uint64(p.size)
}

func TestP3_10Order(t *testing.T) {
	r := dice(10)
	for range 5000 {
		p, q := anyPiece(r), anyPiece(r)
		if p.meets(q) {
			continue
		}
		a, b := of(t, rich()), of(t, rich())
		for _, x := range []piece{p, q} {
			wantStore(t, a, ram+x.at, x.size, x.v)
		}
		for _, x := range []piece{q, p} {
			wantStore(t, b, ram+x.at, x.size, x.v)
		}
		wantState(t, "the other way round", a, b.State())
	}
}

// TestP3_11Looking: nothing that only looks changes the state; the two loads that do change no more than they tell.
func TestP3_11Looking(t *testing.T) {
	for _, s := range []api.Bus{rich(), off(rich(), 2, 7), off(full(), 0, 0), {Ram: make([]byte, 8), Overrun: true}} {
		b := of(t, s)
		for _, addr := range places(len(s.Ram)) {
			for size := -2; size <= 9; size++ {
				if addr != console && addr != console+5 {
					b.Load(addr, size)
				}
				b.Can(addr, size, api.R|api.W)
				b.IsRam(addr, size)
				b.Peek(addr, size)
			}
		}
		b.Mip()
		b.Time()
		b.Off()
		b.Output()
		wantState(t, "behind looking", b, s)
		b.Load(console+5, 1)
		s.Overrun = false
		wantState(t, "behind a load of the status", b, s)
		if v, _ := b.Load(console, 1); len(s.Input) > 0 {
			if byte(v) != s.Input[0] {
				t.Errorf("the data is %#x, want %#x", v, s.Input[0])
			}
			s.Input = s.Input[1:]
		}
		wantState(t, "behind a load of the data", b, s)
	}
}

// TestP3_12Order: bytes come and go by chance; each byte that found room comes out, in its order.
func TestP3_12Order(t *testing.T) {
	r := dice(12)
	b := made(t, 8)
	var waiting []byte
	lost, next := false, byte(0)
	for range 20000 {
		switch r.IntN(40) {
		case 0:
			wantStore(t, b, console+2, 1, r.Uint64()|2)
			waiting = nil
		case 1, 2, 3:
			came := make([]byte, r.IntN(40))
			for i := range came {
				came[i] = next
				next++
			}
			b.Begin(api.World{Input: came})
			fits := min(len(came), 64-len(waiting))
			waiting = slices.Concat(waiting, came[:fits])
			lost = lost || fits < len(came)
		case 4, 5, 6:
			v, _ := b.Load(console+5, 1)
			if v&2 != 0 != lost {
				t.Fatalf("the status is %d, lost %v", v, lost)
			}
			lost = false
		default:
			want := uint64(0)
			if len(waiting) > 0 {
				want, waiting = uint64(waiting[0]), waiting[1:]
			}
			wantLoad(t, b, console, 1, want)
		}
	}
}

// TestP3_12Lost: that a byte was lost is told once, however the queue is emptied meanwhile.
func TestP3_12Lost(t *testing.T) {
	b := made(t, 8)
	for range 3 {
		b.Begin(api.World{Input: make([]byte, 65)})
	}
	wantStore(t, b, console+2, 1, 2)
	b.Begin(api.World{})
	wantLoad(t, b, console, 1, 0)
	wantLoad(t, b, console+5, 1, 98)
	wantLoad(t, b, console+5, 1, 96)
	b.Begin(api.World{Input: make([]byte, 64)})
	wantLoad(t, b, console+5, 1, 97)
	b.Begin(api.World{Input: []byte{1}})
	wantLoad(t, b, console+5, 1, 99)
	wantLoad(t, b, console+5, 1, 97)
}

// TestP3_12Guarded: loads from many goroutines at once still give each byte once.
func TestP3_12Guarded(t *testing.T) {
	const readers = 8
	input := make([]byte, 64)
	for i := range input {
		input[i] = byte(i + 1)
	}
	for range 200 {
		b := made(t, 8)
		b.Begin(api.World{Input: input})
		var seen [readers][]byte
		var all sync.WaitGroup
		for i := range readers {
			all.Go(func() {
				for range 64 / readers {
					v, _ := b.Load(console, 1)
					seen[i] = append(seen[i], byte(v))
				}
			})
		}
		all.Wait()
		together := slices.Concat(seen[:]...)
		slices.Sort(together)
		if !bytes.Equal(together, input) {
			t.Fatalf("the bytes that came out are %x", together)
		}
	}
}

// TestP3_13Power: behind Off nothing turns it on, and no world does anything.
func TestP3_13Power(t *testing.T) {
	for _, x := range []struct {
		v         uint64
		how, code int
	}{{0x5555, 1, 0}, {0x3333, 2, 0}, {0x93333, 2, 9}, {0xffff3333, 2, 65535}} {
		s := rich()
		b := of(t, s)
		wantStore(t, b, finisher, 4, x.v)
		for _, again := range []uint64{0x5555, 0x3333, 0x13333, 0xffff3333, 0, last} {
			wantStore(t, b, finisher, 4, again)
			wantOff(t, "behind a second store", b, x.how, x.code)
		}
		for _, w := range []api.World{{}, {Tick: true}, {Ext: true}, {Soft: true}, {Input: make([]byte, 65)}, {Tick: true, Ext: true, Soft: true, Input: []byte("x")}} {
			b.Begin(w)
			wantState(t, "behind a world", b, off(s, x.how, x.code))
		}
		playOn(t, b, x.how, x.code)
	}
}

// playOn makes many calls by chance; the power must stay as it is.
func playOn(t *testing.T, b *bus.Bus, how, code int) {
	t.Helper()
	m := model{b.State()}
	r := dice(13)
	for range 2000 {
		if said := m.step(b, r, near(16)); said != "" {
			t.Fatal(said)
		}
		wantStore(t, b, finisher, 4, r.Uint64N(1<<32)<<16|0x3333)
		wantOff(t, "behind more calls", b, how, code)
	}
}

func TestExamplesOfStates(t *testing.T) {
	for i, spoil := range []func(s *api.Bus){
		func(s *api.Bus) { s.Ram = make([]byte, 12) }, func(s *api.Bus) { s.Msip = 2 }, func(s *api.Bus) { s.Ier = 16 }, func(s *api.Bus) { s.Mcr = 32 },
		func(s *api.Bus) { s.Input = make([]byte, 65) }, func(s *api.Bus) { s.Off = 3 }, func(s *api.Bus) { s.Code = 1 }, func(s *api.Bus) { s.Off, s.Code = 2, 65536 },
	} {
		s := rich()
		spoil(&s)
		if b, e := bus.From(s); b != nil || e != api.ErrState {
			t.Errorf("example 9, state %d: From answers error %d", i, e)
		}
	}
}
