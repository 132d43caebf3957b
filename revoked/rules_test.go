package revoked

import (
	"math/rand"
	"slices"
	"sync"
	"testing"

	"seneschal/api"
)

// TestP0_1NoPanic holds that each call ends and does not panic, whatever it is handed, and what it tells of nothing at all.
func TestP0_1NoPanic(t *testing.T) {
	c := rand.New(rand.NewSource(1))
	for range 20000 {
		l := make([]int, c.Intn(70))
		for i := range l {
			l[i] = ends()[c.Intn(len(ends()))]
			if c.Intn(2) == 0 {
				l[i] = int(c.Uint64())
			}
		}
		serial := int(c.Uint64())
		May(l)
		Add(l, serial)
		Has(l, serial)
		Any(l, line(l[len(l)/2:]...))
		Union(l, l[len(l)/2:])
		Union(l[:len(l)/2], l)
	}
	for _, n := range ends() {
		if Has(nil, n) || Any(nil, line(n)) {
			t.Errorf("nothing has %d", n)
		}
		if !isSerial(n) {
			adds(t, nil, n, nil, api.ErrArg)
			isNone(t, []int{n})
		}
	}
	if !May(nil) || Any(nil, nil) || Any([]int{1}, nil) || !Any([]int{0}, []api.Grant{{}}) {
		t.Errorf("of nothing: not as it should be")
	}
	unites(t, nil, nil, nil, api.OK)
}

// TestP0_2ZeroBesideError holds that beside an error there is no set, and that what is wrong is told ahead of what is full.
func TestP0_2ZeroBesideError(t *testing.T) {
	full := to(1, most)
	for _, c := range []struct {
		l      []int
		serial int
		e      api.Errno
	}{
		{[]int{3, 7}, 0, api.ErrArg}, {[]int{7, 3}, 5, api.ErrArg}, {[]int{7, 3}, 0, api.ErrArg}, {full, 0, api.ErrArg}, {full, last + 1, api.ErrArg}, {to(1, most+1), 99, api.ErrArg},
		{append(to(1, most-1), 1), 99, api.ErrArg}, {full, 99, api.ErrFull}, {full, last, api.ErrFull},
	} {
		if got, e := Add(c.l, c.serial); len(got) != 0 || e != c.e {
			t.Errorf("%v and %d: %v, error %d, not %d", c.l, c.serial, got, e, c.e)
		}
		if got, e := Union(c.l, []int{c.serial}); len(got) != 0 || e != c.e {
			t.Errorf("%v and the set of %d: %v, error %d, not %d", c.l, c.serial, got, e, c.e)
		}
	}
}

// TestP0_3NothingStays holds that nothing is kept from call to call: behind calls that are refused the others answer as ahead of them.
func TestP0_3NothingStays(t *testing.T) {
	l := []int{3, 7}
	for range 3 {
		Add(l, 0)
		Add([]int{7, 3}, 5)
		Add(to(1, most), 99)
		Union(l, []int{0})
		Union(to(1, most), l[:1:1])
		Has([]int{9}, 9)
		Any([]int{9}, line(9))
		adds(t, l, 5, []int{3, 5, 7}, api.OK)
		adds(t, l, 4, []int{3, 4, 7}, api.OK)
		unites(t, l, []int{1, 7}, []int{1, 3, 7}, api.OK)
		if Has(l, 5) || Has(l, 9) || Any(l, line(9, 5)) || !Any(l, line(7)) || !May(l) {
			t.Fatalf("behind others: not as ahead of them")
		}
	}
}

// TestP0_4NotChanged holds that lists that are handed in aren't changed, nor what is in the room behind them, which doesn't count either.
func TestP0_4NotChanged(t *testing.T) {
	c := rand.New(rand.NewSource(2))
	for range 3000 {
		room := append(set(c, most), 5, 3, 0)
		want := slices.Clone(room)
		other := list(c)
		kept := slices.Clone(other)
		at := c.Intn(len(room) - 2)
		l := room[:at]
		May(l)
		made, e := both(slices.Clip(slices.Clone(l)), slices.Clip(slices.Clone(other)))
		unites(t, l, other, made, e)
		adds(t, l, 1<<20, sorted(l, []int{1 << 20}), api.OK)
		adds(t, l, 1, sorted(l, []int{1}), api.OK)
		g := line(room...)
		if Has(l, 3) != slices.Contains(want[:at], 3) || Any(l, g[:at]) != (at > 0) || Any(room[at:], g[:at]) != Any(slices.Clip(slices.Clone(room[at:])), slices.Clip(slices.Clone(g[:at]))) {
			t.Fatalf("%v: the room behind it counts", l)
		}
		if !slices.Equal(room, want) || !slices.Equal(other, kept) || !slices.Equal(g, line(want...)) {
			t.Fatalf("%v, %v: changed to %v, %v", want, kept, room, other)
		}
	}
}

// TestP0_4NotShared holds that a set that is told is new memory, with the room behind it, also if it is as one that was handed in.
func TestP0_4NotShared(t *testing.T) {
	for n := range most + 1 {
		for m := range most + 1 - n {
			a, b := to(1, n), to(n+1, n+m)
			want := to(1, n+m)
			x, e := Union(a, b)
			y, f := Union(b, a)
			if e != api.OK || f != api.OK || !slices.Equal(x, want) {
				t.Fatalf("%d and %d: %v, errors %d, %d", n, m, x, e, f)
			}
			clear(x[:cap(x)])
			if !slices.Equal(y, want) || !slices.Equal(a, want[:n]) || !slices.Equal(b, want[n:]) {
				t.Fatalf("%d and %d: what is told is shared", n, m)
			}
			clear(a)
			clear(b)
			if !slices.Equal(y, want) {
				t.Fatalf("%d and %d: a set changes as the lists do", n, m)
			}
		}
		if n > 0 {
			l := slices.Grow(to(1, n), 9)
			x, _ := Add(l, n)
			clear(x[:cap(x)])
			y, _ := Union(l, l)
			clear(y[:cap(y)])
			if !slices.Equal(l, to(1, n)) {
				t.Fatalf("%d: as it was, and shared", n)
			}
		}
	}
}

// TestP0_4NotKept holds that the caller may change its lists behind a call: the next one looks at them anew.
func TestP0_4NotKept(t *testing.T) {
	l := []int{3, 7}
	adds(t, l, 5, []int{3, 5, 7}, api.OK)
	l[1] = 4
	adds(t, l, 5, []int{3, 4, 5}, api.OK)
	if Has(l, 7) || !Has(l, 4) || Any(l, line(7)) {
		t.Errorf("%v: not looked at anew", l)
	}
	l[1] = 2
	isNone(t, l)
}

// TestP0_4NilIsEmpty holds that lists that are nil and empty ones are the same.
func TestP0_4NilIsEmpty(t *testing.T) {
	l, g := []int{3, 7}, line(3, 7)
	for _, none := range [][]int{nil, {}, l[:0], l[2:]} {
		if !May(none) || Has(none, 3) || Any(none, g) {
			t.Errorf("none, room %d: not as nil", cap(none))
		}
		adds(t, none, 5, []int{5}, api.OK)
		unites(t, none, l, l, api.OK)
		unites(t, none, nil, nil, api.OK)
	}
	for _, none := range [][]api.Grant{nil, {}, g[:0], g[2:]} {
		if Any(l, none) {
			t.Errorf("no line, room %d: not as nil", cap(none))
		}
	}
	if !slices.Equal(l, []int{3, 7}) {
		t.Errorf("%v: not as it was", l)
	}
}

// TestP0_4AtOnce holds that calls that run at once don't meet in any memory.
func TestP0_4AtOnce(t *testing.T) {
	var all sync.WaitGroup
	l := slices.Grow([]int{3, 7}, 9)
	g := line(1, 7)
	for i := range 8 {
		all.Go(func() {
			for n := range 500 {
				serial := 10 + (i+n)%16
				x, e := Add(l, serial)
				y, f := Union([]int{1, serial}, l)
				if !slices.Equal(x, []int{3, 7, serial}) || !slices.Equal(y, []int{1, 3, 7, serial}) || e != api.OK || f != api.OK || !May(l) || !Any(l, g) || Has(l, serial) {
					t.Errorf("%d, %d: not as alone", i, n)
				}
			}
		})
	}
	all.Wait()
}
