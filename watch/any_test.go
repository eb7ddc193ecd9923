package watch_test

import (
	"fmt"
	"math"
	"math/rand/v2"
	"reflect"
	"testing"

	"anvil/api"
	"anvil/csr"
)

// anyInt is a number that a row's field may have: mostly small.
func anyInt(r *rand.Rand) int {
	return one(r, r.IntN(9), r.IntN(9), r.IntN(9), r.IntN(40)-4, -1, math.MaxInt, math.MinInt, int(r.Uint64()))
}

// anyWord is a number that an address or a register may be.
func anyWord(r *rand.Rand) uint64 {
	device := one[uint64](r, finisher, msip, mtimecmp, mtime, console)
	return one(r, r.Uint64N(9), r.Uint64N(300), ram+r.Uint64N(size+9), ram-r.Uint64N(9), device+r.Uint64N(9), device-r.Uint64N(9), ones-r.Uint64N(9), 1<<63|r.Uint64N(12), r.Uint64())
}

// jolt changes a leaf in some way; a bit of it, by one, or to anything.
func (f leaf) jolt(r *rand.Rand) {
	switch f.v.Kind() {
	case reflect.Bool:
		f.v.SetBool(r.IntN(2) == 0)
	case reflect.Int:
		f.v.SetInt(one(r, f.v.Int()+1, f.v.Int()-1, int64(anyInt(r))))
	case reflect.Uint8:
		f.v.SetUint(one(r, f.v.Uint()^1<<r.IntN(8), f.v.Uint()^1<<r.IntN(8), r.Uint64N(256)))
	case reflect.Uint32:
		f.v.SetUint(one(r, f.v.Uint()^1<<r.IntN(32), uint64(r.Uint32()), 0x73, mret, 0))
	case reflect.Uint64:
		f.v.SetUint(one(r, f.v.Uint()^1<<r.IntN(64), f.v.Uint()+1, f.v.Uint()-1, f.v.Uint()+2, anyWord(r)))
	case reflect.Slice:
		f.joltList(r)
	}
}

// joltList changes a byte of a list, or its length.
func (f leaf) joltList(r *rand.Rand) {
	list := f.v.Bytes()
	switch n := len(list); {
	case r.IntN(3) == 0:
		f.v.SetBytes(append(list[:n:n], anyBytes(r, 1+r.IntN(2))...))
	case n > 0 && r.IntN(4) == 0:
		f.v.SetBytes(list[:r.IntN(n)])
	case n > 0:
		list[r.IntN(n)] ^= byte(1 + r.IntN(255))
	}
}

// changedLook is the same look with some parts changed: of the row, of a whole, of both wholes alike, or of the world.
func changedLook(r *rand.Rand, l look) look {
	l = l.copied()
	for range 1 + r.IntN(3) {
		switch r.IntN(9) {
		case 0, 1, 2:
			one(r, leaves(&l.r)...).jolt(r)
		case 3:
			l.r.Mem, l.r.Addr, l.r.Size, l.r.Data = one(r, 1, 2, 2, 3, anyInt(r)), anyWord(r), one(r, 1, 2, 4, 8, anyInt(r)), anyWord(r)
		case 4:
			one(r, leaves(&l.a)...).jolt(r)
		case 5:
			one(r, leaves(&l.a.Bus)...).jolt(r)
		case 6:
			one(r, leaves(&l.b)...).jolt(r)
		case 7: // what both have is no change of the step
			k := r.IntN(len(leaves(&l.b)))
			at := leaves(&l.b)[k]
			at.jolt(r)
			if at.v.Kind() != reflect.Slice {
				leaves(&l.a)[k].v.Set(at.v)
			}
		case 8:
			one(r, leaves(&l.w)...).jolt(r)
		}
	}
	if r.IntN(2) == 0 {
		l.follow()
	}
	if r.IntN(4) == 0 && l.r.Mem&2 != 0 { // the row's Data is stored
		for i := range l.a.Bus.Ram {
			if k := ram + uint64(i) - l.r.Addr; k < 8 && int(k) < l.r.Size {
				l.a.Bus.Ram[i] = byte(l.r.Data >> (8 * k))
			}
		}
	}
	return l
}

// weighed holds Step against the second watch, and answers the rule that both tell.
func weighed(t *testing.T, l look) int {
	t.Helper()
	want := 0
	if all := broken(l); len(all) > 0 {
		want = all[0]
	}
	if got := l.told(); got != want {
		t.Fatalf("P18.1: rule %d, want %d, of\n%+v", got, want, l)
	}
	return want
}

// enoughOf: each rule up to the last one must have been told so many times, and none as well.
func enoughOf(t *testing.T, told map[int]int, last, least int) {
	t.Helper()
	for rule := range last + 1 {
		if told[rule] < least {
			t.Errorf("rule %d was told %d times: too few to tell", rule, told[rule])
		}
	}
}

// TestP18_1Changed: steps that were made, with parts of them changed, against the second watch: each of the rules is told, and none panics.
func TestP18_1Changed(t *testing.T) {
	told := map[int]int{}
	r := random(1)
	for range 1200 {
		around(t, anyDeck(t, r, 12), func(l look) {
			for range 6 {
				told[weighed(t, changedLook(r, l))]++
			}
		})
	}
	enoughOf(t, told, 20, 20)
}

// TestP18_1Anything: wholes, worlds and rows of any bits, which no machine tells.
func TestP18_1Anything(t *testing.T) {
	r := random(3)
	told := map[int]int{}
	for range 20000 {
		l := look{w: anyWorlds(r, 1)[0]}
		l.b = api.Whole{Cpu: anyCpu(r), Bus: anyBus(r, anyBytes(r, r.IntN(20)))}
		l.a = copiedWhole(l.b)
		for _, part := range leaves(&l.r) {
			if part.jolt(r); r.IntN(3) == 0 {
				part.v.SetZero()
			}
		}
		if l.r.Kind = one(r, 1, 1, 2, 3, 4, 5, anyInt(r)); r.IntN(4) > 0 {
			l.a.Cpu = csr.Proper(l.a.Cpu)
			l.b.Cpu = l.a.Cpu
			l.follow()
		}
		for range r.IntN(4) {
			one(r, leaves(&l.a)...).jolt(r)
		}
		told[weighed(t, l)]++
	}
	if len(told) < 10 {
		t.Errorf("the rules told are %v", told)
	}
}

// TestP18_1Zero: the zero values.
func TestP18_1Zero(t *testing.T) {
	var l look
	l.tells(t, "all zero", 1)
	l.a.Cpu.Mstatus = uxl
	l.tells(t, "a proper Cpu", 2)
	for kind, want := range map[int]int{0: 2, 1: 12, 2: 10, 3: 10, 4: 11, 5: 3, 6: 2} {
		l.r.Kind = kind
		l.tells(t, fmt.Sprintf("kind %d", kind), want)
	}
}
