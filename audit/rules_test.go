package audit

import (
	"math"
	"math/rand"
	"slices"
	"sync"
	"testing"

	"seneschal/api"
)

// spoiled tells a link that no chain has.
func spoiled() api.Link {
	return api.Link{N: -7, Stamp: -7, Op: 7, Ahead: api.Tag{7}, Self: api.Tag{31: 7}}
}

// spoil writes over links and all the room behind them.
func spoil(l []api.Link) {
	l = l[:cap(l)]
	for i := range l {
		l[i] = spoiled()
	}
}

// TestP0_1NoPanic holds that each call ends and does not panic, whatever it is handed, and what it tells of nothing at all.
func TestP0_1NoPanic(t *testing.T) {
	c := rand.New(rand.NewSource(1))
	for range 5000 {
		l := perhaps(c)
		for range c.Intn(3) * c.Intn(12) {
			l = append(l, wild(c))
		}
		holds(t, l, number(c), anything(c))
		holds(t, l, c.Intn(len(l)+2), anything(c))
		x := wild(c)
		hashes(t, x, hashed(x))
	}
	for _, n := range ends() {
		holds(t, nil, n, asked{})
		holds(t, []api.Link{{N: n}}, n, asked{n, uint8(n), n, n, n, n})
	}
	many := make([]api.Link, 1<<16)
	checks(t, many, 1)
	heads(t, many, api.Tag{})
	stands(t, many, 1<<16, api.Link{}, api.OK)
	stands(t, many, 1<<16+1, api.Link{}, noSuch)
	if l := Add(many, 0, 0, 0, 0, 0, 0); len(l) != 1<<16+1 || l[1<<16].N != 1<<16+1 {
		t.Errorf("%d links", len(l))
	}
}

// TestP0_1LongChain holds that long chains are gone through to their end.
func TestP0_1LongChain(t *testing.T) {
	l := chained(several(rand.New(rand.NewSource(2)), 10000)...)
	checks(t, l, 0)
	checks(t, l[1:], 1)
	l[9999].C++
	checks(t, l, 10000)
	checks(t, l[:9999], 0)
	l[5000].Self[9]++
	checks(t, l, 5001)
}

// TestP0_2ZeroBesideError holds that beside an error there is no link, and beside a link no error.
func TestP0_2ZeroBesideError(t *testing.T) {
	l := grown(three()...)
	for _, n := range append(ends(), 4, 5) {
		x, e := At(l, n)
		if n >= 1 && n <= 3 {
			if e != api.OK || x != l[n-1] {
				t.Errorf("%d: %v, error %d", n, x, e)
			}
		} else if e != noSuch || x != (api.Link{}) {
			t.Errorf("%d: %v, error %d", n, x, e)
		}
	}
}

// TestP0_3NothingStays holds that nothing is kept from call to call: behind others, and ones that are refused, the calls answer as ahead of them.
func TestP0_3NothingStays(t *testing.T) {
	l := grown(three()...)
	for range 3 {
		At(l, 0)
		At(l, 4)
		At(nil, math.MaxInt)
		Check(l[1:])
		Check([]api.Link{spoiled()})
		Head([]api.Link{spoiled()})
		Hash(spoiled())
		Add([]api.Link{spoiled()}, 1, 2, 3, 4, 5, 6)
		add(l, asked{stamp: 9})
		adds(t, l, asked{1, 2, 3, 4, 5, 6})
		adds(t, nil, asked{1, 2, 3, 4, 5, 6})
		heads(t, l, known()[2])
		heads(t, nil, api.Tag{})
		hashes(t, l[1], known()[1])
		stands(t, l, 2, l[1], api.OK)
		checks(t, l, 0)
		checks(t, nil, 0)
	}
}

// TestP0_4NotChanged holds that links that are handed in aren't changed, nor what is in the room behind them, which doesn't count either.
func TestP0_4NotChanged(t *testing.T) {
	c := rand.New(rand.NewSource(3))
	for range 500 {
		room := append(perhaps(c), chained(three()...)...)
		want := slices.Clone(room)
		for n := range len(room) + 1 {
			alone := slices.Clip(slices.Clone(room[:n]))
			x := anything(c)
			adds(t, room[:n], x)
			heads(t, room[:n], modelHead(alone))
			checks(t, room[:n], modelCheck(alone))
			stands(t, room[:n], n+1, api.Link{}, noSuch)
			if !slices.Equal(room, want) {
				t.Fatalf("%v: changed to %v", want, room)
			}
		}
	}
}

// TestP0_4NotShared holds that what Add tells is new memory, with the room behind it.
func TestP0_4NotShared(t *testing.T) {
	for n := range 20 {
		for _, room := range []int{0, 1, 9, 100} {
			l := slices.Grow(slices.Clip(grown(make([]asked, n)...)), room)
			behind := l[:cap(l)]
			want := slices.Clone(behind)
			x := add(l, asked{stamp: 1})
			y := add(l, asked{stamp: 2})
			kept := slices.Clone(y)
			_ = append(x, spoiled(), spoiled())
			spoil(x)
			if !slices.Equal(y, kept) || !slices.Equal(behind, want) {
				t.Fatalf("%d links, room for %d: what is told is shared", n, room)
			}
			z := add(y, asked{stamp: 3})
			told := slices.Clone(z)
			spoil(l)
			spoil(y)
			if !slices.Equal(z, told) {
				t.Fatalf("%d links, room for %d: what is told changes as what was handed in does", n, room)
			}
		}
	}
}

// TestP0_4NotKept holds that the caller may change its links behind a call: the next one looks at them anew.
func TestP0_4NotKept(t *testing.T) {
	l := grown(three()...)
	checks(t, l, 0)
	heads(t, l, known()[2])
	stands(t, l, 2, l[1], api.OK)
	l[1].A++
	checks(t, l, 2)
	stands(t, l, 2, l[1], api.OK)
	l[2].Self[0]++
	heads(t, l, l[2].Self)
	adds(t, l, asked{stamp: 1})
	l[1].A--
	checks(t, l, 3)
	l[2].Self[0]--
	checks(t, l, 0)
}

// TestP0_4NilIsEmpty holds that lists that are nil and empty ones are the same.
func TestP0_4NilIsEmpty(t *testing.T) {
	l := grown(three()...)
	want := slices.Clone(l)
	for _, none := range [][]api.Link{nil, {}, l[:0], l[3:]} {
		checks(t, none, 0)
		heads(t, none, api.Tag{})
		stands(t, none, 1, api.Link{}, noSuch)
		stands(t, none, 0, api.Link{}, noSuch)
		adds(t, none, three()[0])
	}
	if !slices.Equal(l, want) {
		t.Errorf("%v: not as it was", l)
	}
}

// TestP0_4AtOnce holds that calls that run at once don't meet in any memory.
func TestP0_4AtOnce(t *testing.T) {
	var done sync.WaitGroup
	l := slices.Grow(grown(three()...), 9)
	for i := range 8 {
		done.Go(func() {
			for n := range 300 {
				x := asked{stamp: i, a: n}
				m := add(l, x)
				y, e := At(m, 4)
				if e != api.OK || y != linked(4, known()[2], x) || Check(m) != 0 || Check(l) != 0 || Head(l) != known()[2] || Hash(y) != y.Self {
					t.Errorf("%d, %d: not as alone", i, n)
				}
			}
		})
	}
	done.Wait()
}
