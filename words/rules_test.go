package words

import (
	"bytes"
	"math"
	"testing"
)

// call is one of the package's calls that is handed bytes; what it answers in bytes, if it does.
type call struct {
	name string
	does func(a, b []byte) []byte
}

func calls() []call {
	return []call{
		{"Load32", func(a, b []byte) []byte { Load32(a, 1); return nil }},
		{"Load64", func(a, b []byte) []byte { Load64(a, 1); return nil }},
		{"Cat of one", func(a, b []byte) []byte { return Cat(a) }},
		{"Cat of two", func(a, b []byte) []byte { return Cat(a, b) }},
		{"Cat with nil", func(a, b []byte) []byte { return Cat(nil, a, nil) }},
		{"Cat of one twice", func(a, b []byte) []byte { return Cat(a, a) }},
		{"Xor", Xor},
		{"Xor with itself", func(a, b []byte) []byte { return Xor(a, a) }},
		{"Same", func(a, b []byte) []byte { Same(a, b); return nil }},
	}
}

// room tells memory that is all told apart, to be cut into lists that have some room behind them.
func room(n int) []byte { return bytes.Repeat([]byte{0xa5, 0x5a, 0x33}, n) }

// TestP0_1 holds that each call ends and does not panic, and what it tells of nothing at all.
func TestP0_1NoPanic(t *testing.T) {
	lists := [][]byte{nil, {}, {1}, some(3), some(4), some(7), some(8), some(9)}
	for _, a := range lists {
		for _, at := range places() {
			Load32(a, at)
			Load64(a, at)
			Rotr(7, at)
			Shr(7, at)
		}
		for _, b := range lists {
			Cat(a, b)
			Xor(a, b)
			Same(a, b)
		}
	}
	if len(Cat()) != 0 || len(Cat(nil...)) != 0 || len(Xor(nil, nil)) != 0 || !Same(nil, nil) {
		t.Errorf("of nil something")
	}
}

// TestP0_2 holds that a number that isn't there whole is told as 0, not as what is there of it.
func TestP0_2ZeroWhereNo(t *testing.T) {
	for n := range 8 {
		b := bytes.Repeat([]byte{0xff}, n)
		for _, at := range []int{math.MinInt, -8, -4, -1, max(0, n-7), max(0, n-3), n - 1, n, n + 1, math.MaxInt - 7, math.MaxInt - 3, math.MaxInt} {
			if x, ok := Load64(b, at); x != 0 || ok {
				t.Errorf("Load64 of %d bytes at %d: %#x %v", n, at, x, ok)
			}
			if x, ok := Load32(b, at); !(ok && at >= 0 && at+4 <= n) && (x != 0 || ok) {
				t.Errorf("Load32 of %d bytes at %d: %#x %v", n, at, x, ok)
			}
		}
	}
}

// TestP0_3 holds that nothing is kept from call to call: after calls that are refused the others answer as ahead of them.
func TestP0_3NothingStays(t *testing.T) {
	tell := func() []byte {
		x, _ := Load32(some(9), 2)
		y, _ := Load64(some(9), 1)
		return Cat(Put32(x), Put64(y), Put32(Rotr(x, 5)), Put32(Shr(x, 5)), Xor(some(9), some(5)))
	}
	first := tell()
	for _, at := range places() {
		Load32(nil, at)
		Load64(some(3), at)
	}
	if !bytes.Equal(tell(), first) {
		t.Errorf("%v, ahead %v", tell(), first)
	}
}

// TestP0_4 holds that what is handed in isn't changed, the room behind it neither.
func TestP0_4NotChanged(t *testing.T) {
	for _, c := range calls() {
		for n := range 20 {
			m := room(10)
			c.does(m[:n], m[n:20])
			c.does(m[20:], m[:0])
			if !bytes.Equal(m, room(10)) {
				t.Errorf("%s, %d bytes: changed %v", c.name, n, m)
			}
		}
	}
	m := room(4)
	l := [][]byte{m[:2], nil, m[2:5], m[5:]}
	Cat(l[:2]...)
	Cat(l...)
	if !bytes.Equal(m, room(4)) || len(l[0]) != 2 || l[1] != nil || len(l[2]) != 3 || &l[2][0] != &m[2] {
		t.Errorf("Cat changed the list of lists, or its lists")
	}
}

// TestP0_4NotShared holds that an answer is new memory, with the room behind it.
func TestP0_4NotShared(t *testing.T) {
	for _, c := range calls() {
		for n := range 20 {
			m := room(10)
			got := c.does(m[:n], m[n:20])
			want := bytes.Clone(got)
			for i := range m {
				m[i] = ^m[i]
			}
			if !bytes.Equal(got, want) {
				t.Errorf("%s, %d bytes: what was handed in is kept", c.name, n)
			}
			m = room(10)
			got = c.does(m[:n], m[n:20])
			spoil(got)
			if !bytes.Equal(m, room(10)) {
				t.Errorf("%s, %d bytes: the answer shares what was handed in", c.name, n)
			}
		}
	}
}

// spoil writes over bytes and all the room behind them.
func spoil(b []byte) {
	b = b[:cap(b)]
	for i := range b {
		b[i] = ^b[i]
	}
}

// TestP0_4EachItsOwn holds that two answers don't share either.
func TestP0_4EachItsOwn(t *testing.T) {
	for name, f := range map[string]func() []byte{
		"Put32": func() []byte { return Put32(0x01020304) },
		"Put64": func() []byte { return Put64(0x0102030405060708) },
		"Cat":   func() []byte { return Cat(some(3), some(4)) },
		"Xor":   func() []byte { return Xor(some(3), room(2)) },
	} {
		a, b := f(), f()
		want := bytes.Clone(b)
		spoil(a)
		if !bytes.Equal(b, want) || !bytes.Equal(f(), want) {
			t.Errorf("%s: answers share", name)
		}
	}
}

// TestP0_4NilIsEmpty holds that lists that are nil and empty ones are the same.
func TestP0_4NilIsEmpty(t *testing.T) {
	for _, none := range [][]byte{nil, {}, some(9)[:0], some(9)[9:]} {
		if x, ok := Load32(none, 0); x != 0 || ok {
			t.Errorf("Load32: %v %v", x, ok)
		}
		if x, ok := Load64(none, 0); x != 0 || ok {
			t.Errorf("Load64: %v %v", x, ok)
		}
		if !bytes.Equal(Cat(none, some(2), none), some(2)) || len(Cat(none)) != 0 || len(Xor(none, some(2))) != 0 || len(Xor(some(2), none)) != 0 {
			t.Errorf("Cat, Xor")
		}
		if !Same(none, nil) || !Same(nil, none) || Same(none, some(1)) || Same(some(1), none) {
			t.Errorf("Same")
		}
	}
}
