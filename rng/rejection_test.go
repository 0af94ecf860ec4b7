package rng

import (
	"testing"

	"testbench/api"
	"testbench/hash"
)

// P6.2: no stream is known that gives 64 numbers in a row that Below rejects, so that bound is tested below its exported function.
func TestRejectionEnds(t *testing.T) {
	for _, r := range []api.Rng{{}, New(1), {Key: 5, Count: 1<<64 - 10}} {
		start := r
		take := rejection(&r)
		if got, want := take(0), hash.Mix(start.Key, start.Count+63); got != want || r != Skip(start, 64) {
			t.Errorf("the last number taken from %#x is %#x, with %#x behind it; want %#x", start, got, r, want)
		}
		if got, want := take(0), hash.Mix(start.Key, start.Count+127); got != want || r != Skip(start, 128) {
			t.Errorf("the next one taken from %#x is %#x, with %#x behind it; want %#x", start, got, r, want)
		}
	}
}

// P6.2: a number that is as great as the given one is not rejected, one that is greater by 1 is.
func TestRejectionBorder(t *testing.T) {
	start := New(1)
	first := hash.Mix(start.Key, 0)
	r := start
	if got := rejection(&r)(first); got != first || r != Skip(start, 1) {
		t.Errorf("%#x was taken, with %#x behind it; want %#x", got, r, first)
	}
	r = start
	if rejection(&r)(first - 1); r == Skip(start, 1) {
		t.Errorf("%#x was not rejected", first)
	}
	r = Skip(start, 1)
	if got := rejection(&r)(1<<64 - 1); got != hash.Mix(start.Key, 1) || r != Skip(start, 2) {
		t.Errorf("%#x was taken, with %#x behind it", got, r)
	}
}

// P6.2: the last number that is taken is reduced, even if it is rejected.
func TestBelowOfRejectedNumber(t *testing.T) {
	rejected := func(greatest uint64) uint64 { return 1<<64 - 1 }
	for n, want := range map[int]int{1: 0, 2: 1, 3: 0, 7: 1, 10: 5, 1000: 615, 1 << 62: 1<<62 - 1} {
		if got := below(rejected, n); got != want {
			t.Errorf("2^64 - 1 below %d is %d; want %d", n, got, want)
		}
	}
}
