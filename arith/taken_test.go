package arith_test

import (
	"testing"

	"anvil/api"
	"anvil/arith"
)

type condition func(a, b uint64) bool

func conditions() map[int]condition {
	return map[int]condition{
		api.OpBeq:  func(a, b uint64) bool { return plain(a).Cmp(plain(b)) == 0 },
		api.OpBne:  func(a, b uint64) bool { return plain(a).Cmp(plain(b)) != 0 },
		api.OpBlt:  func(a, b uint64) bool { return signed(a).Cmp(signed(b)) < 0 },
		api.OpBge:  func(a, b uint64) bool { return signed(a).Cmp(signed(b)) >= 0 },
		api.OpBltu: func(a, b uint64) bool { return plain(a).Cmp(plain(b)) < 0 },
		api.OpBgeu: func(a, b uint64) bool { return plain(a).Cmp(plain(b)) >= 0 },
	}
}

func TestA7Taken(t *testing.T) {
	for op, want := range conditions() {
		eachPair(func(a, b uint64) {
			got, ok := arith.Taken(op, a, b)
			if !ok || got != want(a, b) {
				t.Errorf("A7: Taken(%d, %#x, %#x) = %v, %v, want %v, true", op, a, b, got, ok, want(a, b))
			}
		})
	}
}

func TestA7NoBranch(t *testing.T) {
	known := conditions()
	pairs := [][2]uint64{{1, 1}, {1, 2}, {ones, 0}}
	for _, op := range numbers() {
		if known[op] != nil {
			continue
		}
		for _, p := range pairs {
			if got, ok := arith.Taken(op, p[0], p[1]); got || ok {
				t.Errorf("A7: Taken(%d, %#x, %#x) of no branch = %v, %v", op, p[0], p[1], got, ok)
			}
		}
	}
}
