package hmac

import (
	"bytes"
	"math"
	"slices"
	"sync"
	"testing"

	"seneschal/api"
)

// TestP0_1NoPanic holds that each call ends and does not panic, and what it tells of nothing at all.
func TestP0_1NoPanic(t *testing.T) {
	for _, key := range [][]byte{nil, {}, {0}, some(63), some(64), some(65), some(1000)} {
		for _, b := range [][]byte{nil, {}, {0}, some(64), some(1000)} {
			Sum(key, b)
		}
		for _, label := range []string{"", "\x00", "\xff", "a", string(some(1000))} {
			for _, l := range [][]int{nil, {}, {0}, {-1}, {math.MinInt}, {math.MaxInt}, make([]int, 100)} {
				if got := Derive(key, label, l...); len(got) != 32 {
					t.Errorf("key of %d bytes, %.10q, %d: %d bytes", len(key), label, l, len(got))
				}
			}
		}
	}
	if Sum(nil, nil) != want(nil, nil) || !Same(api.Tag{}, api.Tag{}) || len(Derive(nil, "")) != 32 {
		t.Errorf("of nothing: not as it should be")
	}
}

// TestP0_4NotChanged holds that what is handed in isn't changed, the room behind it neither.
func TestP0_4NotChanged(t *testing.T) {
	for _, n := range []int{0, 1, 20, 31, 32, 63, 64, 65, 100} {
		key, b := some(n+200), some(n+300)
		l := []int{1, 2, 3, 4, 5, 6}
		Sum(key[:n], b[:n])
		Sum(b[:n], b[n:n+9])
		Sum(b[n:n+9], b[:n])
		Derive(key[:n], "a")
		Derive(key[:n], "a", l[:2]...)
		Derive(key[:n], string(b[:n]), l[:0]...)
		if !bytes.Equal(key, some(n+200)) || !bytes.Equal(b, some(n+300)) || !slices.Equal(l, []int{1, 2, 3, 4, 5, 6}) {
			t.Errorf("%d bytes: changed", n)
		}
		x, y := want(some(n), nil), want(nil, some(n))
		a, c := x, y
		Same(a, c)
		if a != x || c != y {
			t.Errorf("%d bytes: tags changed", n)
		}
	}
}

// TestP0_4NotShared holds that a derived key is new memory, with the room behind it: not the key's, and not another one's.
func TestP0_4NotShared(t *testing.T) {
	for _, n := range []int{0, 1, 32, 64, 65} {
		key := some(n)
		x := want(key, summed("a", 1))
		a, b := Derive(key, "a", 1), Derive(key, "a", 1)
		clear(a[:cap(a)])
		if !bytes.Equal(b, x[:]) || !bytes.Equal(key, some(n)) || !bytes.Equal(Derive(key, "a", 1), x[:]) {
			t.Errorf("key of %d bytes: what is derived is shared", n)
		}
		clear(key)
		if !bytes.Equal(b, x[:]) {
			t.Errorf("key of %d bytes: what is derived shares the key", n)
		}
	}
}

// TestP0_4NotKept holds that the caller may change its bytes behind a call: the next one looks at them anew.
func TestP0_4NotKept(t *testing.T) {
	key, b := some(40), some(50)
	for i := range key {
		key[i], b[i] = byte(i), ^key[i]
		x := want(key, summed("a"))
		if Sum(key, b) != want(key, b) || !bytes.Equal(Derive(key, "a"), x[:]) {
			t.Fatalf("%d bytes changed: not the HMAC", i+1)
		}
	}
}

// TestP0_4NilIsEmpty holds that lists that are nil and empty ones are the same.
func TestP0_4NilIsEmpty(t *testing.T) {
	for _, none := range [][]byte{nil, {}, some(9)[:0], some(9)[9:]} {
		if Sum(none, some(9)) != want(nil, some(9)) || Sum(some(9), none) != want(some(9), nil) || !bytes.Equal(Derive(none, "a"), Derive(nil, "a")) {
			t.Errorf("no bytes, room %d: not as nil", cap(none))
		}
	}
	for _, none := range [][]int{nil, {}, []int{1, 2}[:0]} {
		if !bytes.Equal(Derive(some(9), "a", none...), Derive(some(9), "a")) {
			t.Errorf("no numbers, room %d: not as nil", cap(none))
		}
	}
}

// TestP0_4AtOnce holds that calls that run at once don't meet in any memory.
func TestP0_4AtOnce(t *testing.T) {
	var all sync.WaitGroup
	for i := range 8 {
		all.Go(func() {
			for n := range 100 {
				x := want(some(n), summed("a", i))
				if Sum(some(n), some(i)) != want(some(n), some(i)) || !bytes.Equal(Derive(some(n), "a", i), x[:]) {
					t.Errorf("%d, key of %d bytes: not as alone", i, n)
				}
			}
		})
	}
	all.Wait()
}
