package quota

import (
	"math"
	"math/rand"
	"slices"
	"sync"
	"testing"

	"seneschal/api"
)

// spoil writes over shares and all the room behind them.
func spoil(l []Share) {
	l = l[:cap(l)]
	for i := range l {
		l[i] = one(-7, -7, -7)
	}
}

// TestP0_1NoPanic holds that each call ends and does not panic, whatever it is handed, and what it tells of nothing at all.
func TestP0_1NoPanic(t *testing.T) {
	c := rand.New(rand.NewSource(1))
	number := func() int {
		if c.Intn(2) == 0 {
			return int(c.Uint64())
		}
		return ends()[c.Intn(len(ends()))]
	}
	for range 20000 {
		l := perhaps(c)
		for range c.Intn(3) * c.Intn(12) {
			l = append(l, one(number(), number(), number()))
		}
		holds(t, l, one(number(), number(), number()))
		holds(t, l, share(c))
	}
	isNone(t, make([]Share, 1<<20))
	isNone(t, slices.Repeat(of(1, math.MaxInt, math.MaxInt), 1<<20))
	isNone(t, slices.Repeat(each(8, 0, 0), 1<<10))
	isNone(t, of(1, 64, 4096, 2, math.MaxInt, math.MaxInt, 3, math.MaxInt-63, math.MaxInt-4095))
	holds(t, nil, Share{})
	holds(t, nil, one(1, 0, 0))
	if !May(nil) {
		t.Errorf("nothing: no pool")
	}
}

// TestP0_2ZeroBesideError holds that beside an error there are no shares, and beside false no share.
func TestP0_2ZeroBesideError(t *testing.T) {
	c := rand.New(rand.NewSource(2))
	bad := 0
	for range 20000 {
		l, x := perhaps(c), wild(c)
		m, e := Reserve(l, x)
		n, f := Resize(l, x)
		if e != api.OK && len(m) != 0 || f != api.OK && len(n) != 0 {
			t.Fatalf("%v, %v: %v beside the error %d, %v beside the error %d", l, x, m, e, n, f)
		}
		own, there := Of(l, x.Tenant)
		if !there && own != (Share{}) {
			t.Fatalf("%v: %v beside false", l, own)
		}
		if e != api.OK && f != api.OK && !there {
			bad++
		}
	}
	if bad < 3000 {
		t.Errorf("%d refused", bad)
	}
}

// TestP0_3NothingStays holds that nothing is kept from call to call: behind calls that are refused the others answer as ahead of them.
func TestP0_3NothingStays(t *testing.T) {
	l := of(2, 10, 100, 5, 20, 200)
	for range 3 {
		Reserve(l, one(2, 1, 1))
		Reserve(l, one(3, 64, 1))
		Reserve(l, one(3, 65, 1))
		Reserve(of(3, 1, 1, 2, 1, 1), one(4, 1, 1))
		Resize(l, one(3, 1, 1))
		Resize(l, one(2, 64, 1))
		Resize(l, one(2, 1, 4097))
		Left(of(1, 65, 0))
		May(of(9, 0, 0))
		Of(l, 3)
		reserves(t, l, one(3, 34, 3796), of(2, 10, 100, 3, 34, 3796, 5, 20, 200), api.OK)
		reserves(t, l, one(3, 1, 1), of(2, 10, 100, 3, 1, 1, 5, 20, 200), api.OK)
		resizes(t, l, one(2, 44, 3896), of(2, 44, 3896, 5, 20, 200), api.OK)
		resizes(t, l, one(5, 1, 1), of(2, 10, 100, 5, 1, 1), api.OK)
		leaves(t, l, 34, 3796)
		has(t, l, 2, one(2, 10, 100), true)
		has(t, l, 3, Share{}, false)
	}
}

// TestP0_4NotChanged holds that shares that are handed in aren't changed, nor what is in the room behind them, which doesn't count either.
func TestP0_4NotChanged(t *testing.T) {
	c := rand.New(rand.NewSource(3))
	for range 5000 {
		room := append(some(c), one(1, 64, 4096), one(7, 1, 1), one(8, 2, 2), one(0, -1, 9), one(8, 64, 4096))
		want := slices.Clone(room)
		for n := range len(room) + 1 {
			x := share(c)
			holds(t, room[:n], one(x.Tenant, x.Keys/8, x.Space/8))
			holds(t, room[:n], one(8, 0, 0))
			holds(t, room[:n], x)
			if !slices.Equal(room, want) {
				t.Fatalf("%v: changed to %v", want, room)
			}
		}
	}
}

// TestP0_4NotShared holds that what is told is new memory, with the room behind it, wherever the share stands, and whatever stays as it was.
func TestP0_4NotShared(t *testing.T) {
	for n := range mostTenants + 1 {
		for tenant := range mostTenants {
			for _, room := range []int{0, 1, 9} {
				l := slices.Grow(slices.Clip(each(n, 2, 20)), room)
				if tenant < n-1 {
					l = slices.Delete(l, tenant, tenant+1)
				}
				want := slices.Clone(l)
				ask := func() [][]Share {
					reserved, _ := Reserve(l, one(tenant+1, 2, 20))
					last, _ := Reserve(l, one(mostTenants, 0, 0))
					resized, _ := Resize(l, one(tenant+1, 3, 30))
					first, _ := Resize(l, one(1, 9, 90))
					same, _ := Resize(l, one(2, 2, 20))
					return [][]Share{reserved, last, resized, first, same}
				}
				once, again := ask(), ask()
				kept := make([][]Share, len(again))
				for i, m := range again {
					kept[i] = slices.Clone(m)
				}
				for i, m := range once {
					spoil(m)
					for k := range again {
						if !slices.Equal(again[k], kept[k]) || k > i && !slices.Equal(once[k], kept[k]) {
							t.Fatalf("%d of %d: what call %d told is shared with what call %d told", tenant, n, i, k)
						}
					}
					if !slices.Equal(l, want) {
						t.Fatalf("%d of %d: what call %d told is shared with what it was handed", tenant, n, i)
					}
				}
				spoil(l)
				for i, m := range again {
					if !slices.Equal(m, kept[i]) {
						t.Fatalf("%d of %d: what call %d told changes as what it was handed does", tenant, n, i)
					}
				}
			}
		}
	}
}

// TestP0_4RoomIsNew holds that the caller may put more behind what is told without its coming to stand in what it handed in.
func TestP0_4RoomIsNew(t *testing.T) {
	for n := range mostTenants {
		l := slices.Grow(each(n, 1, 1), 9)
		behind := l[:n+5]
		want := slices.Clone(behind)
		for tenant := range mostTenants {
			reserved, _ := Reserve(l, one(tenant+1, 1, 1))
			resized, _ := Resize(l, one(tenant+1, 1, 1))
			for _, m := range [][]Share{reserved, resized} {
				_ = append(m, one(9, 9, 9), one(9, 9, 9))
				spoil(m)
			}
		}
		if !slices.Equal(behind, want) {
			t.Fatalf("%d: %v, not %v", n, behind, want)
		}
	}
}

// TestP0_4NotKept holds that the caller may change its shares behind a call: the next one looks at them anew.
func TestP0_4NotKept(t *testing.T) {
	l := of(2, 10, 100, 5, 20, 200)
	leaves(t, l, 34, 3796)
	has(t, l, 5, one(5, 20, 200), true)
	l[1] = one(6, 1, 1)
	leaves(t, l, 53, 3995)
	has(t, l, 5, Share{}, false)
	has(t, l, 6, one(6, 1, 1), true)
	resizes(t, l, one(5, 1, 1), nil, api.ErrTenant)
	l[1].Tenant = 2
	isNone(t, l)
}

// TestP0_4NilIsEmpty holds that lists that are nil and empty ones are the same.
func TestP0_4NilIsEmpty(t *testing.T) {
	l := of(1, 1, 1, 2, 2, 2)
	for _, none := range [][]Share{nil, {}, l[:0], l[2:]} {
		if !May(none) {
			t.Errorf("none, room %d: no pool", cap(none))
		}
		leaves(t, none, 64, 4096)
		has(t, none, 1, Share{}, false)
		reserves(t, none, one(3, 1, 1), of(3, 1, 1), api.OK)
		resizes(t, none, one(3, 1, 1), nil, api.ErrTenant)
		resizes(t, none, one(1, 1, 1), nil, api.ErrTenant)
	}
	if !slices.Equal(l, of(1, 1, 1, 2, 2, 2)) {
		t.Errorf("%v: not as it was", l)
	}
}

// TestP0_4AtOnce holds that calls that run at once don't meet in any memory.
func TestP0_4AtOnce(t *testing.T) {
	var done sync.WaitGroup
	l := slices.Grow(of(2, 10, 100, 5, 20, 200), 9)
	for i := range 8 {
		done.Go(func() {
			for n := range 2000 {
				k := (i + n) % 9
				a, e := Reserve(l, one(3, k, k))
				b, f := Resize(l, one(2, k, k))
				own, there := Of(l, 5)
				keys, space := Left(l)
				if e != api.OK || f != api.OK || !there || own != one(5, 20, 200) || keys != 34 || space != 3796 || !slices.Equal(a, of(2, 10, 100, 3, k, k, 5, 20, 200)) || !slices.Equal(b, of(2, k, k, 5, 20, 200)) {
					t.Errorf("%d, %d: not as alone", i, n)
				}
			}
		})
	}
	done.Wait()
}
